import Derived.Test.YtjpdgcodjnnljaaImplWrite
namespace Go.Proofs.Ytjpdgcodjnnljaa.Msg
open Go.ChangeShapes Go.WideShapes Go.ChangeAt Go.RowKit
set_option linter.unusedVariables false
set_option linter.unusedSimpArgs false

theorem Wr.len {B W R : List UInt8} (h : Wr B W R) {n : Nat} (hn : W.length ≤ n) : R.length ≤ B.length + n := by
  have := h.le
  rw [List.length_append] at this
  omega
theorem at_le {α : Type} (f : α → Nat) (xs : List α) (k : Nat) (h : k < xs.length) : f xs[k] ≤ sumOf f xs := by
  have h1 := sum_take f xs k h
  have h2 := sum_le f xs (k + 1)
  omega
theorem joined_le {α : Type} (sep : UInt8) (f : α → List UInt8) (xs : List α) (k : Nat) : (joined sep f (xs.take k)).length ≤ (joined sep f xs).length :=
  flat_take_le (fun p => (if p.2 = 0 then [] else [sep]) ++ f p.1) xs k

set_option maxRecDepth 100000 in
set_option maxHeartbeats 1000000 in
theorem repWrite_any (base : Nat) (bs : List UInt8) (x : Rep) (vx v : Value) (w0 w : World) (hb0 : w0.heap.size ≤ base) (hbel : Below base w0 w) {lo : Nat} (hx : StrsAt lo w0 vx x)
    (hown : Buf base w v bs) (hbase : base ≤ w.heap.size) (hl : bs.length + 3 * repSz x ≤ 17592186044416) :
    Calls Try.prog 144 #[.agg #[vx], v] w fun e w' => ∃ u R, e = .returned u ∧ Wr bs (repW x) R ∧ Buf base w' u R ∧ Grew w v w' u := by
  obtain ⟨i0, hi, hz0, hz1, hz2⟩ := u8_facts
  have hlx := hx.1
  obtain ⟨a, cap, rfl, hc⟩ := hx.form
  have HC := hide hc
  have hop := hown.own
  clear hc hx
  have h94 : ((({ data := #[124, 94, 126, 92, 38] } : ByteArray)[1].toNat : Nat) : Int) = 94 := rfl
  have HRW : Hid (repW x = joined 94 (fun c => escs c.data.toList) x) := rfl
  have hrl := repW_le x
  have FR : Hid (∀ wX vX, Grew w v wX vX → Below base w0 wX) := fun wX vX hg => hbel.trans (hg.below hop hbase)
  go_enter Try.func144, Try.ntmps144
  go_wp2_with fail
  go_loopg [1, 10] x.length (fun n v1 i wr => ∃ (k : Nat) (R : List UInt8), k ≤ x.length ∧ n = x.length - k ∧ i = .int .i64 k ∧ Wr bs (joined 94 (fun c => escs c.data.toList) (x.take k)) R ∧ Buf base wr v1 R ∧ Grew w v wr v1)
  case atStart => exact ⟨0, bs, Nat.zero_le _, by simp, rfl, by simpa [joined] using Wr.nil bs, hown.alloc _, (Grew.refl w v).alloc _⟩
  case round =>
    obtain ⟨k, R, hk, rfl, rfl, hW, hbuf, hg⟩ := hrel
    obtain ⟨W1, rfl⟩ : ∃ x, x = wr := ⟨_, rfl⟩
    have HW := hide hW
    have hRl := hW.len (joined_le 94 (fun c : ByteArray => escs c.data.toList) x k)
    clear hW
    have hz : base ≤ W1.heap.size := Nat.le_trans hbase hg.1.size
    have hb1 := FR.out _ _ hg
    by_cases hlt : k < x.length
    · obtain ⟨b, off, rfl, _, hbl, hc0, hs0⟩ := HC.out k hlt
      have hcell : W1.cell? ⟨b, off + k, none⟩ = some (.string x[k]) := by rw [hb1.cell (p := ⟨b, off + k, none⟩) (by show b < base; omega)]; simpa using hc0
      have HS : Hid (joined 94 (fun c : ByteArray => escs c.data.toList) (x.take (k + 1)) = joined 94 (fun c : ByteArray => escs c.data.toList) (x.take k) ++ (sp 94 k ++ escs x[k].data.toList)) := joined_snoc 94 _ x k hlt
      have HSZ : Hid (R.length + 3 * x[k].size + 1 ≤ 70368744177664) := by
        have h1 : (repW x).length = (joined 94 (fun c => escs c.data.toList) x).length := rfl
        have h2 := at_le strSz x k hlt
        unfold strSz at h2
        unfold repSz lenSum strSz at hl hrl
        show R.length + 3 * x[k].size + 1 ≤ 70368744177664
        omega
      clear hc0
      by_cases hk0 : k = 0
      · have hk' : ¬ (0 : Int) < (k : Int) := by omega
        have HD : Hid (sp 94 k = []) := if_pos hk0
        clear hk0
        go_wp2_with fail
        refine (writeComp_any base R x[k] _ _ hbuf hz (by have := HSZ.out; omega)).mono ?_
        rintro e w2 ⟨u, R2, rfl, hW2, hu, hg2⟩
        have HW2 := hide hW2
        clear hW2
        go_wp2_with fail
        go_roundg (x.length - (k + 1))
        case rel => exact ⟨k + 1, R2, by omega, rfl, by go_num, by rw [HS.out, HD.out]; exact HW.out.trans HW2.out, hu, hg.trans hg2⟩
        case measure => omega
      · have hk' : (0 : Int) < (k : Int) := by omega
        have HD : Hid (sp 94 k = [94]) := if_neg hk0
        clear hk0
        have hRm : R.length + 1 ≤ 70368744177664 := by have := HSZ.out; omega
        go_wp2_with (first
          | (at_builtin; refine wpList_append_own_at _ rfl _ _ 22 rfl base 5 i0 (.int .u8 0) 1 1 Try.underlying22 hi hz0 hz1 hz2 rfl (by decide) _ _ _ rfl (World.ownsRow.alloc hbuf _) ⟨W1.heap.size, 0, none⟩ 1 1 [.int .u8 94] rfl rfl ?c1 ?c2 ?c3 ?c4 ?c5 ?_)
          | fail)
        case c1 => exact new_cell _ _ _
        case c2 => exact one_u8 _
        case c3 => unfold maxLen; omega
        case c4 => omega
        case c5 => simp; omega
        intro v' w' hown' hgrow hnil hat
        have RR := Buf.snocC (bs := R) 94 94 (by decide) _ hg (by first | rfl | simp | (simp; omega)) hown' hgrow hat
        clear hown' hgrow hnil hat
        obtain ⟨hR1, hR2⟩ := RR
        have hz2 : base ≤ w'.heap.size := Nat.le_trans hbase hR2.1.size
        go_wp2_with fail
        refine (writeComp_any base (R ++ [94]) x[k] _ _ hR1 hz2 (by have := HSZ.out; simp; omega)).mono ?_
        rintro e w2 ⟨u, R2, rfl, hW2, hu, hg2⟩
        have HW2 := hide hW2
        clear hW2
        go_wp2_with fail
        go_roundg (x.length - (k + 1))
        case rel => exact ⟨k + 1, R2, by omega, rfl, by go_num, by rw [HS.out, HD.out]; exact HW.out.trans ((Wr.full R [94]).trans HW2.out), hu, hR2.trans hg2⟩
        case measure => omega
    · go_wp2_with fail
      go_ret
      exact ⟨_, _, rfl, by rw [HRW.out]; have := HW.out; rwa [List.take_of_length_le (by omega)] at this, hbuf, hg⟩
end Go.Proofs.Ytjpdgcodjnnljaa.Msg
