import Derived.Test.YtfcmhnfdbobnlaaGreatDoorRows
import Derived.WalkKit
import Derived.ProofKit
import Derived.OpenShut
import Derived.ShutString
import Derived.Lib.Strings
import Derived.Lib.Walk
import Derived.Lib.Bytealg
import Derived.BigQuiet
import Derived.Deep.QuietTactic
import Derived.Test.YtfcmhnfdbobnlaaGreatDoorMsgTextwithMsgWrittenwithImplWr
namespace Go.Proofs.YtfcmhnfdbobnlaaGreatDoor.Frame
open Go.ChangeShapes Go.WideShapes Go.ChangeAt Go.RowKit

theorem hide {p : Prop} (h : p) : Hid p := h

def hasB (l : List UInt8) (b : Int) : Bool := l.any fun c => (c.toNat : Int) == b

theorem take_snoc (s : ByteArray) (k : Nat) (h : k < s.size) : s.data.toList.take (k + 1) = s.data.toList.take k ++ [s[k]] := by
  rw [List.take_succ_eq_append_getElem (by simpa using h)]; rfl

theorem hasB_snoc (l : List UInt8) (c : UInt8) (b : Int) : hasB (l ++ [c]) b = (hasB l b || ((c.toNat : Int) == b)) := by
  simp [hasB]

theorem hasB_of (s : ByteArray) (k : Nat) (h : k < s.size) (b : Int) (hb : (s[k].toNat : Int) = b) : hasB s.data.toList b = true := by
  simp only [hasB, List.any_eq_true]
  exact ⟨s[k], by rw [show s[k] = s.data[k] from rfl]; simp, by simpa using hb⟩

theorem ret_bool {a b : Bool} (h : a = b) : Ending.returned (.bool a) = .returned (.bool b) := by rw [h]

set_option maxHeartbeats 1000000 in
set_option maxRecDepth 100000 in
theorem liteIndex (s : ByteArray) (c : Int) (w : World) :
    Calls Tryz.prog 124 #[.string s, .int .u8 c] w fun e w' => e = .returned (.int .i64 (Lib.indexByte s.data.toList c.toNat.toUInt8)) ∧ w' = w := by
  go_enter Tryz.func124, Tryz.ntmps124
  go_wp2
  rw [run_callFunc_extern Tryz.func127 (by kernel_rfl) (by kernel_rfl) (by kernel_rfl) (e := Extern.BytealgIndexByte.indexByte) (by kernel_rfl), Lib.run_indexByteString]
  simp only [Result.andThen]
  rw [Oper.upon_value]
  go_wp2
  go_ret
  exact ⟨rfl, rfl⟩

set_option maxHeartbeats 1000000 in
theorem indexByte_any (s : ByteArray) (c : Int) (w : World) :
    Calls Tryz.prog 116 #[.string s, .int .u8 c] w fun e w' => e = .returned (.int .i64 (Lib.indexByte s.data.toList c.toNat.toUInt8)) ∧ w' = w := by
  go_enter Tryz.func116, Tryz.ntmps116
  go_wp2_with (go_at_call 124; refine (liteIndex _ _ _).mono ?_; rintro e w' ⟨rfl, rfl⟩)
  go_ret
  exact ⟨rfl, rfl⟩

end Go.Proofs.YtfcmhnfdbobnlaaGreatDoor.Frame

namespace Go.Proofs.YtfcmhnfdbobnlaaGreatDoor.Frame
open Go.ChangeShapes Go.WideShapes Go.ChangeAt Go.RowKit

theorem index_no (l : List UInt8) (c : UInt8) (h : hasB l (c.toNat : Int) = false) : Lib.indexByte l c = -1 := by
  induction l with
  | nil => rfl
  | cons b l ih =>
    simp only [hasB, List.any_cons, Bool.or_eq_false_iff] at h
    have hb : (b == c) = false := by
      rw [beq_eq_false_iff_ne]
      intro e
      subst e
      simp at h
    unfold Lib.indexByte
    rw [hb, ih h.2]
    rfl

theorem index_yes (l : List UInt8) (c : UInt8) (h : hasB l (c.toNat : Int) = true) : 0 ≤ Lib.indexByte l c := by
  induction l with
  | nil => simp [hasB] at h
  | cons b l ih =>
    unfold Lib.indexByte
    by_cases hb : (b == c) = true
    · rw [hb]; exact Int.le_refl _
    · have hb' : (b == c) = false := by simpa using hb
      rw [hb']
      have hl : hasB l (c.toNat : Int) = true := by
        simp only [hasB, List.any_cons, Bool.or_eq_true] at h
        rcases h with h | h
        · exfalso
          apply hb
          rw [beq_iff_eq]
          apply UInt8.toNat_inj.1
          have := of_decide_eq_true h
          omega
        · exact h
      have := ih hl
      have hn : (Lib.indexByte l c == -1) = false := by
        rw [beq_eq_false_iff_ne]; omega
      rw [hn]
      simp only [Bool.false_eq_true, if_false]
      omega

theorem idx_no (s : ByteArray) (c : Int) (w : World) (h0 : 0 ≤ c) (h1 : c ≤ 255) (h : hasB s.data.toList c = false) :
    Calls Tryz.prog 116 #[.string s, .int .u8 c] w fun e w' => e = .returned (.int .i64 (-1)) ∧ w' = w := by
  refine (indexByte_any s c w).mono ?_
  rintro e w' ⟨rfl, rfl⟩
  refine ⟨?_, rfl⟩
  rw [index_no]
  rw [show ((c.toNat.toUInt8.toNat : Nat) : Int) = c from ?_]
  · exact h
  · simp only [Nat.toUInt8, UInt8.toNat_ofNat']
    omega

theorem idx_yes (s : ByteArray) (c : Int) (w : World) (h0 : 0 ≤ c) (h1 : c ≤ 255) (h : hasB s.data.toList c = true) :
    Calls Tryz.prog 116 #[.string s, .int .u8 c] w fun e w' => ∃ n : Int, 0 ≤ n ∧ e = .returned (.int .i64 n) ∧ w' = w := by
  refine (indexByte_any s c w).mono ?_
  rintro e w' ⟨rfl, rfl⟩
  refine ⟨_, ?_, rfl, rfl⟩
  apply index_yes
  rw [show ((c.toNat.toUInt8.toNat : Nat) : Int) = c from ?_]
  · exact h
  · simp only [Nat.toUInt8, UInt8.toNat_ofNat']
    omega

/-- a body: short enough, and neither mark of a frame in it -/
def okB (s : ByteArray) : Bool := decide (s.size ≤ 40000) && (!hasB s.data.toList 11 && !hasB s.data.toList 28)

theorem okB_mk (s : ByteArray) (h : s.size ≤ 40000) (h1 : hasB s.data.toList 11 = false) (h2 : hasB s.data.toList 28 = false) : okB s = true := by
  unfold okB; rw [decide_eq_true h, h1, h2]; rfl
theorem okB_long (s : ByteArray) (h : ¬ s.size ≤ 40000) : okB s = false := by
  unfold okB; rw [decide_eq_false h]; rfl
theorem okB_one (s : ByteArray) (h1 : hasB s.data.toList 11 = true) : okB s = false := by
  unfold okB; rw [h1]; simp
theorem okB_two (s : ByteArray) (h1 : hasB s.data.toList 28 = true) : okB s = false := by
  unfold okB; rw [h1]; simp

theorem okB_size {s : ByteArray} (h : okB s = true) : s.size ≤ 40000 := by
  unfold okB at h
  simp only [Bool.and_eq_true, decide_eq_true_eq] at h
  exact h.1

/-- what 'Wrap' answers -/
def wrapped (s : ByteArray) : ByteArray := if okB s = true then ⟨#[11]⟩ ++ s ++ ⟨#[28]⟩ ++ ⟨#[13]⟩ else ⟨#[]⟩
theorem wrapped_yes (s : ByteArray) (h : okB s = true) : wrapped s = ⟨#[11]⟩ ++ s ++ ⟨#[28]⟩ ++ ⟨#[13]⟩ := if_pos h
theorem wrapped_no (s : ByteArray) (h : okB s = false) : wrapped s = ⟨#[]⟩ := if_neg (by rw [h]; decide)
theorem ret_string {a b : ByteArray} (h : a = b) : Ending.returned (.string a) = .returned (.string b) := by rw [h]

end Go.Proofs.YtfcmhnfdbobnlaaGreatDoor.Frame

namespace Go.Proofs.YtfcmhnfdbobnlaaGreatDoor.Msg
open Go.ChangeShapes Go.WideShapes Go.ChangeAt Go.RowKit
set_option linter.unusedVariables false
set_option linter.unusedSimpArgs false

def marks : ByteArray := ⟨#[124, 94, 126, 92, 38]⟩
def letters : List UInt8 := [70, 83, 82, 69, 84]
theorem mark_cases : ∀ c : UInt8, (Lib.indexByte [124, 94, 126, 92, 38] c = -1 ∧ esc c = [c]) ∨ ∃ m : Nat, m < 5 ∧ Lib.indexByte [124, 94, 126, 92, 38] c = m ∧ esc c = [92, letters.getD m 0, 92] := by
  intro c
  unfold esc letters
  by_cases h1 : c = 124
  · subst h1; exact .inr ⟨0, by decide, by decide, by decide⟩
  by_cases h2 : c = 94
  · subst h2; exact .inr ⟨1, by decide, by decide, by decide⟩
  by_cases h3 : c = 126
  · subst h3; exact .inr ⟨2, by decide, by decide, by decide⟩
  by_cases h4 : c = 92
  · subst h4; exact .inr ⟨3, by decide, by decide, by decide⟩
  by_cases h5 : c = 38
  · subst h5; exact .inr ⟨4, by decide, by decide, by decide⟩
  left
  have t : ∀ n : UInt8, c ≠ n → c.toNat ≠ n.toNat := fun n h e => h (UInt8.toNat_inj.1 e)
  have k1 := t 124 h1
  have k2 := t 94 h2
  have k3 := t 126 h3
  have k4 := t 92 h4
  have k5 := t 38 h5
  simp only [show (124 : UInt8).toNat = 124 from rfl, show (94 : UInt8).toNat = 94 from rfl, show (126 : UInt8).toNat = 126 from rfl, show (92 : UInt8).toNat = 92 from rfl, show (38 : UInt8).toNat = 38 from rfl] at k1 k2 k3 k4 k5
  refine ⟨Frame.index_no _ _ ?_, ?_⟩
  · simp only [Frame.hasB, List.any_cons, List.any_nil, Bool.or_false, Bool.or_eq_false_iff, beq_eq_false_iff_ne, show (124 : UInt8).toNat = 124 from rfl, show (94 : UInt8).toNat = 94 from rfl, show (126 : UInt8).toNat = 126 from rfl, show (92 : UInt8).toNat = 92 from rfl, show (38 : UInt8).toNat = 38 from rfl]
    omega
  · rw [if_neg k1, if_neg k2, if_neg k5, if_neg k3, if_neg k4]

theorem idx_marks (c : UInt8) (n : Int) (w : World) (h : Lib.indexByte [124, 94, 126, 92, 38] c = n) :
    Calls Tryz.prog 116 #[.string ⟨#[124, 94, 126, 92, 38]⟩, .int .u8 (c.toNat : Int)] w fun e w' => e = .returned (.int .i64 n) ∧ w' = w := by
  refine (Frame.indexByte_any _ _ _).mono ?_
  rintro e w' ⟨rfl, rfl⟩
  refine ⟨ret_int ?_, rfl⟩
  rw [← h]
  congr 1
  simp

theorem new_cells3 (w : World) (x y z : Value) (t : TypeId) : ∀ (j : Nat) (u : Value), [x, y, z][j]? = some u → (w.alloc (.cells #[x, y, z] t)).cell? ((⟨w.heap.size, 0, none⟩ : Addr).add j) = some u := by
  intro j u hj
  match j with
  | 0 => simp at hj; subst hj; simp [Addr.add]
  | 1 => simp at hj; subst hj; simp [Addr.add]
  | 2 => simp at hj; subst hj; simp [Addr.add]
  | j + 3 => simp at hj

theorem Buf.grow3 {base : Nat} {w wr w' : World} {v0 v v' : Value} {bs : List UInt8} (c d e : UInt8) (o : Obj) (hb : Grew w v0 wr v)
    {n : Nat} (hl : n = bs.length) (h : w'.ownsRow base 5 1 v' (n + 3) (u8s bs ++ [.int .u8 c.toNat, .int .u8 d.toNat, .int .u8 e.toNat])) (hg : (wr.alloc o).grownBy w' v.ownBlock) (hat : v'.ownBlock = v.ownBlock ∨ v'.ownBlock = some (wr.heap.size + 1)) :
    Buf base w' v' (bs ++ [c, d, e]) ∧ Grew w v0 w' v' := by
  subst hl
  refine ⟨by unfold Buf; simpa [u8s] using h, (hb.alloc o).trans ⟨hg, ?_⟩⟩
  rcases hat with hat | hat
  · exact .inl hat
  · exact .inr ⟨_, hat, by rw [Deep.nblk_alloc]; exact Nat.le_refl _⟩

set_option maxRecDepth 100000 in
set_option maxHeartbeats 1000000 in
theorem writeComp_any (base : Nat) (bs : List UInt8) (s : ByteArray) (v : Value) (w : World) (hown : Buf base w v bs) (hbase : base ≤ w.heap.size) (hl : bs.length + 3 * s.size ≤ 70368744177664) :
    Calls Tryz.prog 105 #[v, .string s] w fun e w' => ∃ u R, e = .returned u ∧ Wr bs (escs s.data.toList) R ∧ Buf base w' u R ∧ Grew w v w' u := by
  obtain ⟨i0, hi, hz0, hz1, hz2⟩ := u8_facts
  obtain ⟨a, cap, rfl⟩ : ∃ a cap, v = .slice a bs.length cap := by
    obtain ⟨hlen, ⟨rfl, h0⟩ | ⟨g, cap, cur, rfl, _⟩⟩ := hown
    · exact ⟨none, 0, by rw [h0]⟩
    · exact ⟨_, _, rfl⟩
  by_cases hlong : (40000 : Int) < (bs.length : Int)
  · have HW := hide (Wr.stay bs (escs s.data.toList) (by omega))
    go_enter Tryz.func105, Tryz.ntmps105
    go_wp2_with fail
    go_ret
    exact ⟨_, _, rfl, HW.out, hown, Grew.refl _ _⟩
  · have h92 : ((({ data := #[124, 94, 126, 92, 38] } : ByteArray)[3].toNat : Nat) : Int) = 92 := rfl
    go_enter Tryz.func105, Tryz.ntmps105
    go_wp2_with fail
    go_loopw [0, 15] (fun v1 i wr => ∃ k : Nat, k ≤ s.size ∧ i = .int .i64 k ∧ Buf base wr v1 (bs ++ escs (s.data.toList.take k)) ∧ Grew w (.slice a bs.length cap) wr v1) (fun _ i _ => s.size - (intOf i).toNat)
    case atStart => exact ⟨0, Nat.zero_le _, rfl, by simpa [escs] using hown, Grew.refl _ _⟩
    case round =>
      obtain ⟨k, hk, rfl, hbuf, hb⟩ := hrel
      by_cases hlt : k < s.size
      · have HE : Hid (bs ++ escs (s.data.toList.take (k + 1)) = (bs ++ escs (s.data.toList.take k)) ++ esc s[k]) := by rw [take_snoc s k hlt, escs_snoc, List.append_assoc]; trivial
        have hlen : (bs ++ escs (s.data.toList.take k)).length ≤ bs.length + 3 * k := by
          have := escs_le (s.data.toList.take k)
          have h2 : (s.data.toList.take k).length ≤ k := List.length_take_le _ _
          rw [List.length_append]; omega
        have hz : base ≤ wr.heap.size := Nat.le_trans hbase hb.1.size
        generalize hB : bs ++ escs (s.data.toList.take k) = B at *
        clear hB
        rcases mark_cases s[k] with ⟨hx, he⟩ | ⟨m, hm, hx, he⟩
        · have HI := hide hx
          have HJ : Hid (bs ++ escs (s.data.toList.take (k + 1)) = B ++ [s[k]]) := by rw [HE.out, he]; trivial
          clear hx he
          go_wp2_with fail
          refine (idx_marks s[k] _ _ HI.out).mono ?_
          rintro e w' ⟨rfl, rfl⟩
          go_wp2_with (first
            | (at_builtin; refine wpList_append_own_at _ rfl _ _ 71 rfl base 5 i0 (.int .u8 0) 1 1 Tryz.underlying71 hi hz0 hz1 hz2 rfl (by decide) _ _ _ rfl (World.ownsRow.alloc hbuf _) ⟨w'.heap.size, 0, none⟩ 1 1 [.int .u8 s[k].toNat] rfl rfl ?c1 ?c2 ?c3 ?c4 ?c5 ?_)
            | go_in)
          case c1 => exact new_cell _ _ _
          case c2 => exact one_u8 _
          case c3 => unfold maxLen; omega
          case c4 => omega
          case c5 => simp; omega
          · intro v' w2 hown' hgrow hnil hat
            have R := Buf.snoc (bs := B) s[k] _ hb rfl hown' hgrow hat
            clear hown' hgrow hnil hat hbuf hb
            go_wp2
            go_roundw
            case rel => exact ⟨k + 1, by omega, by go_num, by rw [HJ.out]; exact R.1, R.2⟩
            case measure => simp [intOf]; omega
        · have HI := hide hx
          have HJ : Hid (bs ++ escs (s.data.toList.take (k + 1)) = B ++ [92, letters.getD m 0, 92]) := by rw [HE.out, he]; trivial
          have HM : Hid (((({ data := #[70, 83, 82, 69, 84] } : ByteArray)[m]'hm).toNat : Int) = ((letters.getD m 0).toNat : Int)) := by
            match m, hm with
            | 0, _ => rfl
            | 1, _ => rfl
            | 2, _ => rfl
            | 3, _ => rfl
            | 4, _ => rfl
          clear hx he
          have hm5 : (m : Int) < 5 := by omega
          have hm0 : ¬ (m : Int) < 0 := by omega
          go_wp2_with fail
          refine (idx_marks s[k] _ _ HI.out).mono ?_
          rintro e w' ⟨rfl, rfl⟩
          go_wp2_with (first
            | (at_builtin; refine wpList_append_own_at _ rfl _ _ 71 rfl base 5 i0 (.int .u8 0) 1 1 Tryz.underlying71 hi hz0 hz1 hz2 rfl (by decide) _ _ _ rfl (World.ownsRow.alloc hbuf _) ⟨w'.heap.size, 0, none⟩ 3 3 [.int .u8 92, .int .u8 (({ data := #[70, 83, 82, 69, 84] } : ByteArray)[m]'hm).toNat, .int .u8 92] rfl rfl ?c1 ?c2 ?c3 ?c4 ?c5 ?_)
            | go_in)
          case c1 => exact new_cells3 _ _ _ _ _
          case c2 =>
            intro u hu
            simp only [List.mem_cons, List.not_mem_nil, or_false] at hu
            rcases hu with rfl | rfl | rfl <;> rfl
          case c3 => unfold maxLen; omega
          case c4 => omega
          case c5 => simp; omega
          · intro v' w2 hown' hgrow hnil hat
            rw [HM.out] at hown'
            have R := Buf.grow3 (bs := B) 92 (letters.getD m 0) 92 _ hb rfl hown' hgrow hat
            clear hown' hgrow hnil hat hbuf hb
            go_wp2
            go_roundw
            case rel => exact ⟨k + 1, by omega, by go_num, by rw [HJ.out]; exact R.1, R.2⟩
            case measure => simp [intOf]; omega
      · have HW : Hid (Wr bs (escs s.data.toList) (bs ++ escs s.data.toList)) := Wr.full _ _
        go_wp2_with fail
        go_ret
        exact ⟨_, _, rfl, HW.out, by rw [List.take_of_length_le (by simp; omega)] at hbuf; exact hbuf, hb⟩
end Go.Proofs.YtfcmhnfdbobnlaaGreatDoor.Msg
