import Derived.Test.YtjpdgcodjnnljaaImplRepW
namespace Go.Proofs.Ytjpdgcodjnnljaa.Msg
open Go.ChangeShapes Go.WideShapes Go.ChangeAt Go.RowKit
set_option linter.unusedVariables false
set_option linter.unusedSimpArgs false

set_option maxRecDepth 100000 in
set_option maxHeartbeats 1000000 in
theorem fieldWrite_any (base : Nat) (bs : List UInt8) (x : Field) (vx v : Value) (w0 w : World) (hb0 : w0.heap.size ≤ base) (hbel : Below base w0 w) {lo : Nat} (hx : RepsAt lo w0 vx x)
    (hown : Buf base w v bs) (hbase : base ≤ w.heap.size) (hl : bs.length + 3 * fieldSz x ≤ 4398046511104) :
    Calls Try.prog 127 #[.agg #[vx], v] w fun e w' => ∃ u R, e = .returned u ∧ Wr bs (fieldW x) R ∧ Buf base w' u R ∧ Grew w v w' u := by
  obtain ⟨i0, hi, hz0, hz1, hz2⟩ := u8_facts
  have hlx := hx.1
  obtain ⟨a, cap, rfl, hc⟩ := hx.form
  have HC := hide hc
  have hop := hown.own
  clear hc hx
  have h126 : ((({ data := #[124, 94, 126, 92, 38] } : ByteArray)[2].toNat : Nat) : Int) = 126 := rfl
  have HRW : Hid (fieldW x = joined 126 repW x) := rfl
  have hrl := fieldW_le x
  have FR : Hid (∀ wX vX, Grew w v wX vX → Below base w0 wX) := fun wX vX hg => hbel.trans (hg.below hop hbase)
  go_enter Try.func127, Try.ntmps127
  go_wp2_with fail
  go_loopg [1, 10] x.length (fun n v1 i wr => ∃ (k : Nat) (R : List UInt8), k ≤ x.length ∧ n = x.length - k ∧ i = .int .i64 k ∧ Wr bs (joined 126 repW (x.take k)) R ∧ Buf base wr v1 R ∧ Grew w v wr v1)
  case atStart => exact ⟨0, bs, Nat.zero_le _, by simp, rfl, by simpa [joined] using Wr.nil bs, hown.alloc _, (Grew.refl w v).alloc _⟩
  case round =>
    obtain ⟨k, R, hk, rfl, rfl, hW, hbuf, hg⟩ := hrel
    obtain ⟨W1, rfl⟩ : ∃ x, x = wr := ⟨_, rfl⟩
    have HW := hide hW
    have hRl := hW.len (joined_le 126 repW x k)
    clear hW
    have hz : base ≤ W1.heap.size := Nat.le_trans hbase hg.1.size
    have hb1 := FR.out _ _ hg
    by_cases hlt : k < x.length
    · obtain ⟨b, off, rfl, _, hbl, ve, hc0, hel⟩ := HC.out k hlt
      obtain ⟨a5, cap5, rfl, _⟩ := hel.form
      have hcell : W1.cell? ⟨b, off + k, none⟩ = some (.slice a5 x[k].length cap5) := by rw [hb1.cell (p := ⟨b, off + k, none⟩) (by show b < base; omega)]; simpa using hc0
      have HS : Hid (joined 126 repW (x.take (k + 1)) = joined 126 repW (x.take k) ++ (sp 126 k ++ repW x[k])) := joined_snoc 126 _ x k hlt
      have HSZ : Hid (R.length + 3 * repSz x[k] + 1 ≤ 17592186044416) := by
        have h1 : (fieldW x).length = (joined 126 repW x).length := rfl
        have h2 := at_le repSz x k hlt
        unfold fieldSz lenSum at hl hrl
        show R.length + 3 * repSz x[k] + 1 ≤ 17592186044416
        omega
      clear hc0
      by_cases hk0 : k = 0
      · have hk' : ¬ (0 : Int) < (k : Int) := by omega
        have HD : Hid (sp 126 k = []) := if_pos hk0
        clear hk0
        go_wp2_with fail
        refine (repWrite_any base R x[k] _ _ w0 _ hb0 (hb1.alloc hz _) hel (hbuf.alloc _) (by simp; omega) (by have := HSZ.out; omega)).mono ?_
        rintro e w2 ⟨u, R2, rfl, hW2, hu, hg2⟩
        have HW2 := hide hW2
        clear hW2
        go_wp2_with fail
        go_roundg (x.length - (k + 1))
        case rel => exact ⟨k + 1, R2, by omega, rfl, by go_num, by rw [HS.out, HD.out]; exact HW.out.trans HW2.out, hu, (hg.alloc _).trans hg2⟩
        case measure => omega
      · have hk' : (0 : Int) < (k : Int) := by omega
        have HD : Hid (sp 126 k = [126]) := if_neg hk0
        clear hk0
        have hRm : R.length + 1 ≤ 17592186044416 := by have := HSZ.out; omega
        have hne := hbuf.lt (Nat.le_refl W1.heap.size)
        have hbuf1 := hbuf.alloc (.cells #[.slice a5 x[k].length cap5] 116)
        have hg1 := hg.alloc (.cells #[.slice a5 x[k].length cap5] 116)
        clear hbuf hg
        go_wp2_with (first
          | (at_builtin; refine wpList_append_own_at _ rfl _ _ 22 rfl base 5 i0 (.int .u8 0) 1 1 Try.underlying22 hi hz0 hz1 hz2 rfl (by decide) _ _ _ rfl (World.ownsRow.alloc hbuf1 _) ⟨W1.heap.size + 1, 0, none⟩ 1 1 [.int .u8 126] rfl rfl ?c1 ?c2 ?c3 ?c4 ?c5 ?_)
          | fail)
        case c1 => have := new_cell (W1.alloc (.cells #[.slice a5 x[k].length cap5] 116)) (.int .u8 126) 5; simpa using this
        case c2 => exact one_u8 _
        case c3 => unfold maxLen; omega
        case c4 => omega
        case c5 => simp; omega
        intro v' w' hown' hgrow hnil hat
        have RR := Buf.snocC (bs := R) 126 126 (by decide) _ hg1 (by first | rfl | simp | (simp; omega)) hown' hgrow (by simpa using hat)
        have hbox : w'.cell? ⟨W1.heap.size, 0, none⟩ = some (.slice a5 x[k].length cap5) := by
          rw [World.cell?_of_block (hgrow.block W1.heap.size (by simp; omega) (fun e => hne e.symm)), World.cell?_of_block (Deep.blk_alloc_lt _ _ _ (by simp))]; simp
        clear hown' hgrow hnil hat
        obtain ⟨hR1, hR2⟩ := RR
        have hz2 : base ≤ w'.heap.size := Nat.le_trans hbase hR2.1.size
        have HB := hide (FR.out _ _ hR2)
        go_wp2_with fail
        refine (repWrite_any base (R ++ [126]) x[k] _ _ w0 _ hb0 HB.out hel hR1 hz2 (by have := HSZ.out; simp; omega)).mono ?_
        rintro e w2 ⟨u, R2, rfl, hW2, hu, hg2⟩
        have HW2 := hide hW2
        clear hW2
        go_wp2_with fail
        go_roundg (x.length - (k + 1))
        case rel => exact ⟨k + 1, R2, by omega, rfl, by go_num, by rw [HS.out, HD.out]; exact HW.out.trans ((Wr.full R [126]).trans HW2.out), hu, hR2.trans hg2⟩
        case measure => omega
    · go_wp2_with fail
      go_ret
      exact ⟨_, _, rfl, by rw [HRW.out]; have := HW.out; rwa [List.take_of_length_le (by omega)] at this, hbuf, hg⟩
end Go.Proofs.Ytjpdgcodjnnljaa.Msg
