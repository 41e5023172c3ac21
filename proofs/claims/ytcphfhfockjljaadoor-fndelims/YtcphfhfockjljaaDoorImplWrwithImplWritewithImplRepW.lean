import Derived.Test.YtcphfhfockjljaaDoorMsgWritten
import Derived.Test.YtcphfhfockjljaaDoorFrameBasewithFrameWrapwithFrameSpecWrap
namespace Go.Proofs.YtcphfhfockjljaaDoor.Msg
set_option linter.unusedVariables false
set_option linter.unusedSimpArgs false

/-- B with W written behind it, or, where that is too long, a text that is too long as well -/
def Wr (B W R : List UInt8) : Prop := ((B ++ W).length ≤ 40000 ∧ R = B ++ W) ∨ (40000 < (B ++ W).length ∧ 40000 < R.length ∧ R.length ≤ (B ++ W).length)
theorem Wr.le {B W R : List UInt8} (h : Wr B W R) : R.length ≤ (B ++ W).length := by
  rcases h with ⟨_, rfl⟩ | ⟨_, _, h⟩
  · exact Nat.le_refl _
  · exact h
theorem Wr.eq {B W R : List UInt8} (h : Wr B W R) (hl : (B ++ W).length ≤ 40000) : R = B ++ W := by
  rcases h with ⟨_, h⟩ | ⟨h, _⟩
  · exact h
  · omega
theorem Wr.long {B W R : List UInt8} (h : Wr B W R) (hl : 40000 < (B ++ W).length) : 40000 < R.length := by
  rcases h with ⟨h, _⟩ | ⟨_, h, _⟩
  · omega
  · exact h
theorem Wr.nil (B : List UInt8) : Wr B [] B := by
  unfold Wr
  rw [List.append_nil]
  by_cases h : B.length ≤ 40000
  · exact .inl ⟨h, rfl⟩
  · exact .inr ⟨by omega, by omega, Nat.le_refl _⟩
theorem Wr.full (B W : List UInt8) : Wr B W (B ++ W) := by
  unfold Wr
  by_cases h : (B ++ W).length ≤ 40000
  · exact .inl ⟨h, rfl⟩
  · exact .inr ⟨by omega, by omega, Nat.le_refl _⟩
theorem Wr.stay (B W : List UInt8) (h : 40000 < B.length) : Wr B W B := by
  refine .inr ⟨?_, h, ?_⟩ <;> rw [List.length_append] <;> omega
theorem Wr.trans {B W1 R1 W2 R2 : List UInt8} (h1 : Wr B W1 R1) (h2 : Wr R1 W2 R2) : Wr B (W1 ++ W2) R2 := by
  rcases h1 with ⟨a, rfl⟩ | ⟨a, b, c⟩
  · unfold Wr at h2 ⊢
    rw [List.append_assoc] at h2
    exact h2
  · have hl : 40000 < (R1 ++ W2).length := by rw [List.length_append]; omega
    have h3 := h2.long hl
    have h4 := h2.le
    rw [List.length_append] at h4 a c
    refine .inr ⟨?_, h3, ?_⟩ <;> rw [List.length_append, List.length_append] <;> omega
theorem Wr.cast {B W W' R : List UInt8} (h : Wr B W R) (e : W = W') : Wr B W' R := e ▸ h
end Go.Proofs.YtcphfhfockjljaaDoor.Msg

namespace Go.Proofs.YtcphfhfockjljaaDoor.Msg
open Go.ChangeShapes Go.WideShapes Go.ChangeAt Go.RowKit
set_option linter.unusedVariables false
set_option linter.unusedSimpArgs false

def marks : ByteArray := ⟨#[124, 94, 126, 92, 38]⟩
def letters : List UInt8 := [70, 83, 82, 69, 84]
theorem mark_cases : ∀ c : UInt8, (Lib.indexByte [124, 94, 126, 92, 38] c = -1 ∧ esc c = [c]) ∨ ∃ m : Nat, m < 5 ∧ Lib.indexByte [124, 94, 126, 92, 38] c = m ∧ esc c = [92, letters.getD m 0, 92] := by
  intro c
  unfold esc letters
  by_cases h1 : c = 124
  · subst h1; exact .inr ⟨0, by decide, by decide, by decide⟩
  by_cases h2 : c = 94
  · subst h2; exact .inr ⟨1, by decide, by decide, by decide⟩
  by_cases h3 : c = 126
  · subst h3; exact .inr ⟨2, by decide, by decide, by decide⟩
  by_cases h4 : c = 92
  · subst h4; exact .inr ⟨3, by decide, by decide, by decide⟩
  by_cases h5 : c = 38
  · subst h5; exact .inr ⟨4, by decide, by decide, by decide⟩
  left
  have t : ∀ n : UInt8, c ≠ n → c.toNat ≠ n.toNat := fun n h e => h (UInt8.toNat_inj.1 e)
  have k1 := t 124 h1
  have k2 := t 94 h2
  have k3 := t 126 h3
  have k4 := t 92 h4
  have k5 := t 38 h5
  simp only [show (124 : UInt8).toNat = 124 from rfl, show (94 : UInt8).toNat = 94 from rfl, show (126 : UInt8).toNat = 126 from rfl, show (92 : UInt8).toNat = 92 from rfl, show (38 : UInt8).toNat = 38 from rfl] at k1 k2 k3 k4 k5
  refine ⟨Frame.index_no _ _ ?_, ?_⟩
  · simp only [Frame.hasB, List.any_cons, List.any_nil, Bool.or_false, Bool.or_eq_false_iff, beq_eq_false_iff_ne, show (124 : UInt8).toNat = 124 from rfl, show (94 : UInt8).toNat = 94 from rfl, show (126 : UInt8).toNat = 126 from rfl, show (92 : UInt8).toNat = 92 from rfl, show (38 : UInt8).toNat = 38 from rfl]
    omega
  · rw [if_neg k1, if_neg k2, if_neg k5, if_neg k3, if_neg k4]

theorem idx_marks (c : UInt8) (n : Int) (w : World) (h : Lib.indexByte [124, 94, 126, 92, 38] c = n) :
    Calls Tryd.prog 47 #[.string ⟨#[124, 94, 126, 92, 38]⟩, .int .u8 (c.toNat : Int)] w fun e w' => e = .returned (.int .i64 n) ∧ w' = w := by
  refine (Frame.indexByte_any _ _ _).mono ?_
  rintro e w' ⟨rfl, rfl⟩
  refine ⟨ret_int ?_, rfl⟩
  rw [← h]
  congr 1
  simp

theorem new_cells3 (w : World) (x y z : Value) (t : TypeId) : ∀ (j : Nat) (u : Value), [x, y, z][j]? = some u → (w.alloc (.cells #[x, y, z] t)).cell? ((⟨w.heap.size, 0, none⟩ : Addr).add j) = some u := by
  intro j u hj
  match j with
  | 0 => simp at hj; subst hj; simp [Addr.add]
  | 1 => simp at hj; subst hj; simp [Addr.add]
  | 2 => simp at hj; subst hj; simp [Addr.add]
  | j + 3 => simp at hj

theorem Buf.grow3 {base : Nat} {w wr w' : World} {v0 v v' : Value} {bs : List UInt8} (c d e : UInt8) (o : Obj) (hb : Grew w v0 wr v)
    {n : Nat} (hl : n = bs.length) (h : w'.ownsRow base 5 1 v' (n + 3) (u8s bs ++ [.int .u8 c.toNat, .int .u8 d.toNat, .int .u8 e.toNat])) (hg : (wr.alloc o).grownBy w' v.ownBlock) (hat : v'.ownBlock = v.ownBlock ∨ v'.ownBlock = some (wr.heap.size + 1)) :
    Buf base w' v' (bs ++ [c, d, e]) ∧ Grew w v0 w' v' := by
  subst hl
  refine ⟨by unfold Buf; simpa [u8s] using h, (hb.alloc o).trans ⟨hg, ?_⟩⟩
  rcases hat with hat | hat
  · exact .inl hat
  · exact .inr ⟨_, hat, by rw [Deep.nblk_alloc]; exact Nat.le_refl _⟩

set_option maxRecDepth 100000 in
set_option maxHeartbeats 1000000 in
theorem writeComp_any (base : Nat) (bs : List UInt8) (s : ByteArray) (v : Value) (w : World) (hown : Buf base w v bs) (hbase : base ≤ w.heap.size) (hl : bs.length + 3 * s.size ≤ 70368744177664) :
    Calls Tryd.prog 74 #[v, .string s] w fun e w' => ∃ u R, e = .returned u ∧ Wr bs (escs s.data.toList) R ∧ Buf base w' u R ∧ Grew w v w' u := by
  obtain ⟨i0, hi, hz0, hz1, hz2⟩ := u8_facts
  obtain ⟨a, cap, rfl⟩ : ∃ a cap, v = .slice a bs.length cap := by
    obtain ⟨hlen, ⟨rfl, h0⟩ | ⟨g, cap, cur, rfl, _⟩⟩ := hown
    · exact ⟨none, 0, by rw [h0]⟩
    · exact ⟨_, _, rfl⟩
  by_cases hlong : (40000 : Int) < (bs.length : Int)
  · have HW := hide (Wr.stay bs (escs s.data.toList) (by omega))
    go_enter Tryd.func74, Tryd.ntmps74
    go_wp2_with fail
    go_ret
    exact ⟨_, _, rfl, HW.out, hown, Grew.refl _ _⟩
  · have h92 : ((({ data := #[124, 94, 126, 92, 38] } : ByteArray)[3].toNat : Nat) : Int) = 92 := rfl
    go_enter Tryd.func74, Tryd.ntmps74
    go_wp2_with fail
    go_loopw [0, 15] (fun v1 i wr => ∃ k : Nat, k ≤ s.size ∧ i = .int .i64 k ∧ Buf base wr v1 (bs ++ escs (s.data.toList.take k)) ∧ Grew w (.slice a bs.length cap) wr v1) (fun _ i _ => s.size - (intOf i).toNat)
    case atStart => exact ⟨0, Nat.zero_le _, rfl, by simpa [escs] using hown, Grew.refl _ _⟩
    case round =>
      obtain ⟨k, hk, rfl, hbuf, hb⟩ := hrel
      by_cases hlt : k < s.size
      · have HE : Hid (bs ++ escs (s.data.toList.take (k + 1)) = (bs ++ escs (s.data.toList.take k)) ++ esc s[k]) := by rw [take_snoc s k hlt, escs_snoc, List.append_assoc]; trivial
        have hlen : (bs ++ escs (s.data.toList.take k)).length ≤ bs.length + 3 * k := by
          have := escs_le (s.data.toList.take k)
          have h2 : (s.data.toList.take k).length ≤ k := List.length_take_le _ _
          rw [List.length_append]; omega
        have hz : base ≤ wr.heap.size := Nat.le_trans hbase hb.1.size
        generalize hB : bs ++ escs (s.data.toList.take k) = B at *
        clear hB
        rcases mark_cases s[k] with ⟨hx, he⟩ | ⟨m, hm, hx, he⟩
        · have HI := hide hx
          have HJ : Hid (bs ++ escs (s.data.toList.take (k + 1)) = B ++ [s[k]]) := by rw [HE.out, he]; trivial
          clear hx he
          go_wp2_with fail
          refine (idx_marks s[k] _ _ HI.out).mono ?_
          rintro e w' ⟨rfl, rfl⟩
          go_wp2_with (first
            | (at_builtin; refine wpList_append_own_at _ rfl _ _ 22 rfl base 5 i0 (.int .u8 0) 1 1 Tryd.underlying22 hi hz0 hz1 hz2 rfl (by decide) _ _ _ rfl (World.ownsRow.alloc hbuf _) ⟨w'.heap.size, 0, none⟩ 1 1 [.int .u8 s[k].toNat] rfl rfl ?c1 ?c2 ?c3 ?c4 ?c5 ?_)
            | go_in)
          case c1 => exact new_cell _ _ _
          case c2 => exact one_u8 _
          case c3 => unfold maxLen; omega
          case c4 => omega
          case c5 => simp; omega
          · intro v' w2 hown' hgrow hnil hat
            have R := Buf.snoc (bs := B) s[k] _ hb rfl hown' hgrow hat
            clear hown' hgrow hnil hat hbuf hb
            go_wp2
            go_roundw
            case rel => exact ⟨k + 1, by omega, by go_num, by rw [HJ.out]; exact R.1, R.2⟩
            case measure => simp [intOf]; omega
        · have HI := hide hx
          have HJ : Hid (bs ++ escs (s.data.toList.take (k + 1)) = B ++ [92, letters.getD m 0, 92]) := by rw [HE.out, he]; trivial
          have HM : Hid (((({ data := #[70, 83, 82, 69, 84] } : ByteArray)[m]'hm).toNat : Int) = ((letters.getD m 0).toNat : Int)) := by
            match m, hm with
            | 0, _ => rfl
            | 1, _ => rfl
            | 2, _ => rfl
            | 3, _ => rfl
            | 4, _ => rfl
          clear hx he
          have hm5 : (m : Int) < 5 := by omega
          have hm0 : ¬ (m : Int) < 0 := by omega
          go_wp2_with fail
          refine (idx_marks s[k] _ _ HI.out).mono ?_
          rintro e w' ⟨rfl, rfl⟩
          go_wp2_with (first
            | (at_builtin; refine wpList_append_own_at _ rfl _ _ 22 rfl base 5 i0 (.int .u8 0) 1 1 Tryd.underlying22 hi hz0 hz1 hz2 rfl (by decide) _ _ _ rfl (World.ownsRow.alloc hbuf _) ⟨w'.heap.size, 0, none⟩ 3 3 [.int .u8 92, .int .u8 (({ data := #[70, 83, 82, 69, 84] } : ByteArray)[m]'hm).toNat, .int .u8 92] rfl rfl ?c1 ?c2 ?c3 ?c4 ?c5 ?_)
            | go_in)
          case c1 => exact new_cells3 _ _ _ _ _
          case c2 =>
            intro u hu
            simp only [List.mem_cons, List.not_mem_nil, or_false] at hu
            rcases hu with rfl | rfl | rfl <;> rfl
          case c3 => unfold maxLen; omega
          case c4 => omega
          case c5 => simp; omega
          · intro v' w2 hown' hgrow hnil hat
            rw [HM.out] at hown'
            have R := Buf.grow3 (bs := B) 92 (letters.getD m 0) 92 _ hb rfl hown' hgrow hat
            clear hown' hgrow hnil hat hbuf hb
            go_wp2
            go_roundw
            case rel => exact ⟨k + 1, by omega, by go_num, by rw [HJ.out]; exact R.1, R.2⟩
            case measure => simp [intOf]; omega
      · have HW : Hid (Wr bs (escs s.data.toList) (bs ++ escs s.data.toList)) := Wr.full _ _
        go_wp2_with fail
        go_ret
        exact ⟨_, _, rfl, HW.out, by rw [List.take_of_length_le (by simp; omega)] at hbuf; exact hbuf, hb⟩
end Go.Proofs.YtcphfhfockjljaaDoor.Msg

namespace Go.Proofs.YtcphfhfockjljaaDoor.Msg
open Go.ChangeShapes Go.WideShapes Go.ChangeAt Go.RowKit
set_option linter.unusedVariables false
set_option linter.unusedSimpArgs false

theorem Wr.len {B W R : List UInt8} (h : Wr B W R) {n : Nat} (hn : W.length ≤ n) : R.length ≤ B.length + n := by
  have := h.le
  rw [List.length_append] at this
  omega
theorem at_le {α : Type} (f : α → Nat) (xs : List α) (k : Nat) (h : k < xs.length) : f xs[k] ≤ sumOf f xs := by
  have h1 := sum_take f xs k h
  have h2 := sum_le f xs (k + 1)
  omega
theorem joined_le {α : Type} (sep : UInt8) (f : α → List UInt8) (xs : List α) (k : Nat) : (joined sep f (xs.take k)).length ≤ (joined sep f xs).length :=
  flat_take_le (fun p => (if p.2 = 0 then [] else [sep]) ++ f p.1) xs k

set_option maxRecDepth 100000 in
set_option maxHeartbeats 1000000 in
theorem repWrite_any (base : Nat) (bs : List UInt8) (x : Rep) (vx v : Value) (w0 w : World) (hb0 : w0.heap.size ≤ base) (hbel : Below base w0 w) {lo : Nat} (hx : StrsAt lo w0 vx x)
    (hown : Buf base w v bs) (hbase : base ≤ w.heap.size) (hl : bs.length + 3 * repSz x ≤ 17592186044416) :
    Calls Tryd.prog 60 #[.agg #[vx], v] w fun e w' => ∃ u R, e = .returned u ∧ Wr bs (repW x) R ∧ Buf base w' u R ∧ Grew w v w' u := by
  obtain ⟨i0, hi, hz0, hz1, hz2⟩ := u8_facts
  have hlx := hx.1
  obtain ⟨a, cap, rfl, hc⟩ := hx.form
  have HC := hide hc
  have hop := hown.own
  clear hc hx
  have h94 : ((({ data := #[124, 94, 126, 92, 38] } : ByteArray)[1].toNat : Nat) : Int) = 94 := rfl
  have HRW : Hid (repW x = joined 94 (fun c => escs c.data.toList) x) := rfl
  have hrl := repW_le x
  have FR : Hid (∀ wX vX, Grew w v wX vX → Below base w0 wX) := fun wX vX hg => hbel.trans (hg.below hop hbase)
  go_enter Tryd.func60, Tryd.ntmps60
  go_wp2_with fail
  go_loopg [1, 10] x.length (fun n v1 i wr => ∃ (k : Nat) (R : List UInt8), k ≤ x.length ∧ n = x.length - k ∧ i = .int .i64 k ∧ Wr bs (joined 94 (fun c => escs c.data.toList) (x.take k)) R ∧ Buf base wr v1 R ∧ Grew w v wr v1)
  case atStart => exact ⟨0, bs, Nat.zero_le _, by simp, rfl, by simpa [joined] using Wr.nil bs, hown.alloc _, (Grew.refl w v).alloc _⟩
  case round =>
    obtain ⟨k, R, hk, rfl, rfl, hW, hbuf, hg⟩ := hrel
    obtain ⟨W1, rfl⟩ : ∃ x, x = wr := ⟨_, rfl⟩
    have HW := hide hW
    have hRl := hW.len (joined_le 94 (fun c : ByteArray => escs c.data.toList) x k)
    clear hW
    have hz : base ≤ W1.heap.size := Nat.le_trans hbase hg.1.size
    have hb1 := FR.out _ _ hg
    by_cases hlt : k < x.length
    · obtain ⟨b, off, rfl, _, hbl, hc0, hs0⟩ := HC.out k hlt
      have hcell : W1.cell? ⟨b, off + k, none⟩ = some (.string x[k]) := by rw [hb1.cell (p := ⟨b, off + k, none⟩) (by show b < base; omega)]; simpa using hc0
      have HS : Hid (joined 94 (fun c : ByteArray => escs c.data.toList) (x.take (k + 1)) = joined 94 (fun c : ByteArray => escs c.data.toList) (x.take k) ++ (sp 94 k ++ escs x[k].data.toList)) := joined_snoc 94 _ x k hlt
      have HSZ : Hid (R.length + 3 * x[k].size + 1 ≤ 70368744177664) := by
        have h1 : (repW x).length = (joined 94 (fun c => escs c.data.toList) x).length := rfl
        have h2 := at_le strSz x k hlt
        unfold strSz at h2
        unfold repSz lenSum strSz at hl hrl
        show R.length + 3 * x[k].size + 1 ≤ 70368744177664
        omega
      clear hc0
      by_cases hk0 : k = 0
      · have hk' : ¬ (0 : Int) < (k : Int) := by omega
        have HD : Hid (sp 94 k = []) := if_pos hk0
        clear hk0
        go_wp2_with fail
        refine (writeComp_any base R x[k] _ _ hbuf hz (by have := HSZ.out; omega)).mono ?_
        rintro e w2 ⟨u, R2, rfl, hW2, hu, hg2⟩
        have HW2 := hide hW2
        clear hW2
        go_wp2_with fail
        go_roundg (x.length - (k + 1))
        case rel => exact ⟨k + 1, R2, by omega, rfl, by go_num, by rw [HS.out, HD.out]; exact HW.out.trans HW2.out, hu, hg.trans hg2⟩
        case measure => omega
      · have hk' : (0 : Int) < (k : Int) := by omega
        have HD : Hid (sp 94 k = [94]) := if_neg hk0
        clear hk0
        have hRm : R.length + 1 ≤ 70368744177664 := by have := HSZ.out; omega
        go_wp2_with (first
          | (at_builtin; refine wpList_append_own_at _ rfl _ _ 22 rfl base 5 i0 (.int .u8 0) 1 1 Tryd.underlying22 hi hz0 hz1 hz2 rfl (by decide) _ _ _ rfl (World.ownsRow.alloc hbuf _) ⟨W1.heap.size, 0, none⟩ 1 1 [.int .u8 94] rfl rfl ?c1 ?c2 ?c3 ?c4 ?c5 ?_)
          | fail)
        case c1 => exact new_cell _ _ _
        case c2 => exact one_u8 _
        case c3 => unfold maxLen; omega
        case c4 => omega
        case c5 => simp; omega
        intro v' w' hown' hgrow hnil hat
        have RR := Buf.snocC (bs := R) 94 94 (by decide) _ hg (by first | rfl | simp | (simp; omega)) hown' hgrow hat
        clear hown' hgrow hnil hat
        obtain ⟨hR1, hR2⟩ := RR
        have hz2 : base ≤ w'.heap.size := Nat.le_trans hbase hR2.1.size
        go_wp2_with fail
        refine (writeComp_any base (R ++ [94]) x[k] _ _ hR1 hz2 (by have := HSZ.out; simp; omega)).mono ?_
        rintro e w2 ⟨u, R2, rfl, hW2, hu, hg2⟩
        have HW2 := hide hW2
        clear hW2
        go_wp2_with fail
        go_roundg (x.length - (k + 1))
        case rel => exact ⟨k + 1, R2, by omega, rfl, by go_num, by rw [HS.out, HD.out]; exact HW.out.trans ((Wr.full R [94]).trans HW2.out), hu, hR2.trans hg2⟩
        case measure => omega
    · go_wp2_with fail
      go_ret
      exact ⟨_, _, rfl, by rw [HRW.out]; have := HW.out; rwa [List.take_of_length_le (by omega)] at this, hbuf, hg⟩
end Go.Proofs.YtcphfhfockjljaaDoor.Msg
