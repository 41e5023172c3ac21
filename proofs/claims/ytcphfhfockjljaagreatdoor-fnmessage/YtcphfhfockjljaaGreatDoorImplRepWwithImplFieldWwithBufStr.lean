import Derived.Test.YtcphfhfockjljaaGreatDoorImplGetwithImplWrwithImplWrite
import Derived.Test.YtcphfhfockjljaaGreatDoorDrawKitwithBufPutwithParseData
import Derived.Lib.AppendStr
namespace Go.Proofs.YtcphfhfockjljaaGreatDoor.Msg
open Go.ChangeShapes Go.WideShapes Go.ChangeAt Go.RowKit
set_option linter.unusedVariables false
set_option linter.unusedSimpArgs false

theorem Wr.len {B W R : List UInt8} (h : Wr B W R) {n : Nat} (hn : W.length ≤ n) : R.length ≤ B.length + n := by
  have := h.le
  rw [List.length_append] at this
  omega
theorem at_le {α : Type} (f : α → Nat) (xs : List α) (k : Nat) (h : k < xs.length) : f xs[k] ≤ sumOf f xs := by
  have h1 := sum_take f xs k h
  have h2 := sum_le f xs (k + 1)
  omega
theorem joined_le {α : Type} (sep : UInt8) (f : α → List UInt8) (xs : List α) (k : Nat) : (joined sep f (xs.take k)).length ≤ (joined sep f xs).length :=
  flat_take_le (fun p => (if p.2 = 0 then [] else [sep]) ++ f p.1) xs k

set_option maxRecDepth 100000 in
set_option maxHeartbeats 1000000 in
theorem repWrite_any (base : Nat) (bs : List UInt8) (x : Rep) (vx v : Value) (w0 w : World) (hb0 : w0.heap.size ≤ base) (hbel : Below base w0 w) {lo : Nat} (hx : StrsAt lo w0 vx x)
    (hown : Buf base w v bs) (hbase : base ≤ w.heap.size) (hl : bs.length + 3 * repSz x ≤ 17592186044416) :
    Calls Tryz.prog 80 #[.agg #[vx], v] w fun e w' => ∃ u R, e = .returned u ∧ Wr bs (repW x) R ∧ Buf base w' u R ∧ Grew w v w' u := by
  obtain ⟨i0, hi, hz0, hz1, hz2⟩ := u8_facts
  have hlx := hx.1
  obtain ⟨a, cap, rfl, hc⟩ := hx.form
  have HC := hide hc
  have hop := hown.own
  clear hc hx
  have h94 : ((({ data := #[124, 94, 126, 92, 38] } : ByteArray)[1].toNat : Nat) : Int) = 94 := rfl
  have HRW : Hid (repW x = joined 94 (fun c => escs c.data.toList) x) := rfl
  have hrl := repW_le x
  have FR : Hid (∀ wX vX, Grew w v wX vX → Below base w0 wX) := fun wX vX hg => hbel.trans (hg.below hop hbase)
  go_enter Tryz.func80, Tryz.ntmps80
  go_wp2_with fail
  go_loopg [1, 10] x.length (fun n v1 i wr => ∃ (k : Nat) (R : List UInt8), k ≤ x.length ∧ n = x.length - k ∧ i = .int .i64 k ∧ Wr bs (joined 94 (fun c => escs c.data.toList) (x.take k)) R ∧ Buf base wr v1 R ∧ Grew w v wr v1)
  case atStart => exact ⟨0, bs, Nat.zero_le _, by simp, rfl, by simpa [joined] using Wr.nil bs, hown.alloc _, (Grew.refl w v).alloc _⟩
  case round =>
    obtain ⟨k, R, hk, rfl, rfl, hW, hbuf, hg⟩ := hrel
    obtain ⟨W1, rfl⟩ : ∃ x, x = wr := ⟨_, rfl⟩
    have HW := hide hW
    have hRl := hW.len (joined_le 94 (fun c : ByteArray => escs c.data.toList) x k)
    clear hW
    have hz : base ≤ W1.heap.size := Nat.le_trans hbase hg.1.size
    have hb1 := FR.out _ _ hg
    by_cases hlt : k < x.length
    · obtain ⟨b, off, rfl, _, hbl, hc0, hs0⟩ := HC.out k hlt
      have hcell : W1.cell? ⟨b, off + k, none⟩ = some (.string x[k]) := by rw [hb1.cell (p := ⟨b, off + k, none⟩) (by show b < base; omega)]; simpa using hc0
      have HS : Hid (joined 94 (fun c : ByteArray => escs c.data.toList) (x.take (k + 1)) = joined 94 (fun c : ByteArray => escs c.data.toList) (x.take k) ++ (sp 94 k ++ escs x[k].data.toList)) := joined_snoc 94 _ x k hlt
      have HSZ : Hid (R.length + 3 * x[k].size + 1 ≤ 70368744177664) := by
        have h1 : (repW x).length = (joined 94 (fun c => escs c.data.toList) x).length := rfl
        have h2 := at_le strSz x k hlt
        unfold strSz at h2
        unfold repSz lenSum strSz at hl hrl
        show R.length + 3 * x[k].size + 1 ≤ 70368744177664
        omega
      clear hc0
      by_cases hk0 : k = 0
      · have hk' : ¬ (0 : Int) < (k : Int) := by omega
        have HD : Hid (sp 94 k = []) := if_pos hk0
        clear hk0
        go_wp2_with fail
        refine (writeComp_any base R x[k] _ _ hbuf hz (by have := HSZ.out; omega)).mono ?_
        rintro e w2 ⟨u, R2, rfl, hW2, hu, hg2⟩
        have HW2 := hide hW2
        clear hW2
        go_wp2_with fail
        go_roundg (x.length - (k + 1))
        case rel => exact ⟨k + 1, R2, by omega, rfl, by go_num, by rw [HS.out, HD.out]; exact HW.out.trans HW2.out, hu, hg.trans hg2⟩
        case measure => omega
      · have hk' : (0 : Int) < (k : Int) := by omega
        have HD : Hid (sp 94 k = [94]) := if_neg hk0
        clear hk0
        have hRm : R.length + 1 ≤ 70368744177664 := by have := HSZ.out; omega
        go_wp2_with (first
          | (at_builtin; refine wpList_append_own_at _ rfl _ _ 22 rfl base 5 i0 (.int .u8 0) 1 1 Tryz.underlying22 hi hz0 hz1 hz2 rfl (by decide) _ _ _ rfl (World.ownsRow.alloc hbuf _) ⟨W1.heap.size, 0, none⟩ 1 1 [.int .u8 94] rfl rfl ?c1 ?c2 ?c3 ?c4 ?c5 ?_)
          | fail)
        case c1 => exact new_cell _ _ _
        case c2 => exact one_u8 _
        case c3 => unfold maxLen; omega
        case c4 => omega
        case c5 => simp; omega
        intro v' w' hown' hgrow hnil hat
        have RR := Buf.snocC (bs := R) 94 94 (by decide) _ hg (by first | rfl | simp | (simp; omega)) hown' hgrow hat
        clear hown' hgrow hnil hat
        obtain ⟨hR1, hR2⟩ := RR
        have hz2 : base ≤ w'.heap.size := Nat.le_trans hbase hR2.1.size
        go_wp2_with fail
        refine (writeComp_any base (R ++ [94]) x[k] _ _ hR1 hz2 (by have := HSZ.out; simp; omega)).mono ?_
        rintro e w2 ⟨u, R2, rfl, hW2, hu, hg2⟩
        have HW2 := hide hW2
        clear hW2
        go_wp2_with fail
        go_roundg (x.length - (k + 1))
        case rel => exact ⟨k + 1, R2, by omega, rfl, by go_num, by rw [HS.out, HD.out]; exact HW.out.trans ((Wr.full R [94]).trans HW2.out), hu, hR2.trans hg2⟩
        case measure => omega
    · go_wp2_with fail
      go_ret
      exact ⟨_, _, rfl, by rw [HRW.out]; have := HW.out; rwa [List.take_of_length_le (by omega)] at this, hbuf, hg⟩
end Go.Proofs.YtcphfhfockjljaaGreatDoor.Msg

namespace Go.Proofs.YtcphfhfockjljaaGreatDoor.Msg
open Go.ChangeShapes Go.WideShapes Go.ChangeAt Go.RowKit
set_option linter.unusedVariables false
set_option linter.unusedSimpArgs false

set_option maxRecDepth 100000 in
set_option maxHeartbeats 1000000 in
theorem fieldWrite_any (base : Nat) (bs : List UInt8) (x : Field) (vx v : Value) (w0 w : World) (hb0 : w0.heap.size ≤ base) (hbel : Below base w0 w) {lo : Nat} (hx : RepsAt lo w0 vx x)
    (hown : Buf base w v bs) (hbase : base ≤ w.heap.size) (hl : bs.length + 3 * fieldSz x ≤ 4398046511104) :
    Calls Tryz.prog 64 #[.agg #[vx], v] w fun e w' => ∃ u R, e = .returned u ∧ Wr bs (fieldW x) R ∧ Buf base w' u R ∧ Grew w v w' u := by
  obtain ⟨i0, hi, hz0, hz1, hz2⟩ := u8_facts
  have hlx := hx.1
  obtain ⟨a, cap, rfl, hc⟩ := hx.form
  have HC := hide hc
  have hop := hown.own
  clear hc hx
  have h126 : ((({ data := #[124, 94, 126, 92, 38] } : ByteArray)[2].toNat : Nat) : Int) = 126 := rfl
  have HRW : Hid (fieldW x = joined 126 repW x) := rfl
  have hrl := fieldW_le x
  have FR : Hid (∀ wX vX, Grew w v wX vX → Below base w0 wX) := fun wX vX hg => hbel.trans (hg.below hop hbase)
  go_enter Tryz.func64, Tryz.ntmps64
  go_wp2_with fail
  go_loopg [1, 10] x.length (fun n v1 i wr => ∃ (k : Nat) (R : List UInt8), k ≤ x.length ∧ n = x.length - k ∧ i = .int .i64 k ∧ Wr bs (joined 126 repW (x.take k)) R ∧ Buf base wr v1 R ∧ Grew w v wr v1)
  case atStart => exact ⟨0, bs, Nat.zero_le _, by simp, rfl, by simpa [joined] using Wr.nil bs, hown.alloc _, (Grew.refl w v).alloc _⟩
  case round =>
    obtain ⟨k, R, hk, rfl, rfl, hW, hbuf, hg⟩ := hrel
    obtain ⟨W1, rfl⟩ : ∃ x, x = wr := ⟨_, rfl⟩
    have HW := hide hW
    have hRl := hW.len (joined_le 126 repW x k)
    clear hW
    have hz : base ≤ W1.heap.size := Nat.le_trans hbase hg.1.size
    have hb1 := FR.out _ _ hg
    by_cases hlt : k < x.length
    · obtain ⟨b, off, rfl, _, hbl, ve, hc0, hel⟩ := HC.out k hlt
      obtain ⟨a5, cap5, rfl, _⟩ := hel.form
      have hcell : W1.cell? ⟨b, off + k, none⟩ = some (.slice a5 x[k].length cap5) := by rw [hb1.cell (p := ⟨b, off + k, none⟩) (by show b < base; omega)]; simpa using hc0
      have HS : Hid (joined 126 repW (x.take (k + 1)) = joined 126 repW (x.take k) ++ (sp 126 k ++ repW x[k])) := joined_snoc 126 _ x k hlt
      have HSZ : Hid (R.length + 3 * repSz x[k] + 1 ≤ 17592186044416) := by
        have h1 : (fieldW x).length = (joined 126 repW x).length := rfl
        have h2 := at_le repSz x k hlt
        unfold fieldSz lenSum at hl hrl
        show R.length + 3 * repSz x[k] + 1 ≤ 17592186044416
        omega
      clear hc0
      by_cases hk0 : k = 0
      · have hk' : ¬ (0 : Int) < (k : Int) := by omega
        have HD : Hid (sp 126 k = []) := if_pos hk0
        clear hk0
        go_wp2_with fail
        refine (repWrite_any base R x[k] _ _ w0 _ hb0 (hb1.alloc hz _) hel (hbuf.alloc _) (by simp; omega) (by have := HSZ.out; omega)).mono ?_
        rintro e w2 ⟨u, R2, rfl, hW2, hu, hg2⟩
        have HW2 := hide hW2
        clear hW2
        go_wp2_with fail
        go_roundg (x.length - (k + 1))
        case rel => exact ⟨k + 1, R2, by omega, rfl, by go_num, by rw [HS.out, HD.out]; exact HW.out.trans HW2.out, hu, (hg.alloc _).trans hg2⟩
        case measure => omega
      · have hk' : (0 : Int) < (k : Int) := by omega
        have HD : Hid (sp 126 k = [126]) := if_neg hk0
        clear hk0
        have hRm : R.length + 1 ≤ 17592186044416 := by have := HSZ.out; omega
        have hne := hbuf.lt (Nat.le_refl W1.heap.size)
        have hbuf1 := hbuf.alloc (.cells #[.slice a5 x[k].length cap5] 51)
        have hg1 := hg.alloc (.cells #[.slice a5 x[k].length cap5] 51)
        clear hbuf hg
        go_wp2_with (first
          | (at_builtin; refine wpList_append_own_at _ rfl _ _ 22 rfl base 5 i0 (.int .u8 0) 1 1 Tryz.underlying22 hi hz0 hz1 hz2 rfl (by decide) _ _ _ rfl (World.ownsRow.alloc hbuf1 _) ⟨W1.heap.size + 1, 0, none⟩ 1 1 [.int .u8 126] rfl rfl ?c1 ?c2 ?c3 ?c4 ?c5 ?_)
          | fail)
        case c1 => have := new_cell (W1.alloc (.cells #[.slice a5 x[k].length cap5] 51)) (.int .u8 126) 5; simpa using this
        case c2 => exact one_u8 _
        case c3 => unfold maxLen; omega
        case c4 => omega
        case c5 => simp; omega
        intro v' w' hown' hgrow hnil hat
        have RR := Buf.snocC (bs := R) 126 126 (by decide) _ hg1 (by first | rfl | simp | (simp; omega)) hown' hgrow (by simpa using hat)
        have hbox : w'.cell? ⟨W1.heap.size, 0, none⟩ = some (.slice a5 x[k].length cap5) := by
          rw [World.cell?_of_block (hgrow.block W1.heap.size (by simp; omega) (fun e => hne e.symm)), World.cell?_of_block (Deep.blk_alloc_lt _ _ _ (by simp))]; simp
        clear hown' hgrow hnil hat
        obtain ⟨hR1, hR2⟩ := RR
        have hz2 : base ≤ w'.heap.size := Nat.le_trans hbase hR2.1.size
        have HB := hide (FR.out _ _ hR2)
        go_wp2_with fail
        refine (repWrite_any base (R ++ [126]) x[k] _ _ w0 _ hb0 HB.out hel hR1 hz2 (by have := HSZ.out; simp; omega)).mono ?_
        rintro e w2 ⟨u, R2, rfl, hW2, hu, hg2⟩
        have HW2 := hide hW2
        clear hW2
        go_wp2_with fail
        go_roundg (x.length - (k + 1))
        case rel => exact ⟨k + 1, R2, by omega, rfl, by go_num, by rw [HS.out, HD.out]; exact HW.out.trans ((Wr.full R [126]).trans HW2.out), hu, hR2.trans hg2⟩
        case measure => omega
    · go_wp2_with fail
      go_ret
      exact ⟨_, _, rfl, by rw [HRW.out]; have := HW.out; rwa [List.take_of_length_le (by omega)] at this, hbuf, hg⟩
end Go.Proofs.YtcphfhfockjljaaGreatDoor.Msg

namespace Go.Proofs.YtcphfhfockjljaaGreatDoor.Msg
open Go.ChangeShapes Go.WideShapes Go.ChangeAt Go.RowKit
set_option linter.unusedVariables false
set_option linter.unusedSimpArgs false

/-- the bytes of a text behind a slice of bytes: what is owned, and where it lies -/
theorem append_str {P : Program} (w : World) (base : Nat) (t u ty e : TypeId) (i : TypeInfo) (ht : P.underlying t = some (.slice e)) (hu : P.underlying u = some .string) (hi : P.info? e = some i) (hz : i.zero = some (.int .u8 0))
    (hsize : i.size = 1) (hby : i.bytes = 1) (v : Value) (n : Nat) (xs : List Value) (hown : w.ownsRow base e 1 v n xs) (s : ByteArray)
    (h63 : n + s.size ≤ maxLen) (hbytes : n + s.size ≤ 140737488355328) (hbase : base ≤ w.heap.size) :
    ∃ v' w', (Builtin.append_ #[t, u] ty #[v, .string s]).run P w = .ok v' w' ∧ w'.ownsRow base e 1 v' (n + s.size) (xs ++ Lib.strCells s) ∧ w.grownBy w' v.ownBlock ∧
      (v'.ownBlock = v.ownBlock ∨ v'.ownBlock = some w.heap.size) := by
  obtain ⟨v', w', hr, h2, h3, h4⟩ := Lib.run_append_own_string (P := P) w base t u ty e i ht hu hi hz hsize hby v n xs hown s h63 hbytes hbase
  refine ⟨v', w', hr, h2, h3, ?_⟩
  have hsmall : n + s.size ≤ 9223372036854775807 := by simp only [maxLen] at h63; omega
  have hxl : xs.length = n := by simpa using hown.1
  rcases hown.2 with ⟨rfl, rfl⟩ | ⟨g, cap, cur, rfl, hbg, hg, hnc, hcm, hcs, htake⟩
  · by_cases hm : s.size = 0
    · rw [h4.2 ⟨rfl, hm⟩]; exact .inl rfl
    · have hr2 := run_append_nil_string (P := P) w t u ty e i (.int .u8 0) ht hu hi hz s (by omega) (by omega) (by rw [hby]; omega)
      rw [hr2] at hr
      injection hr with hv hw
      rw [← hv]; exact .inr rfl
  · by_cases hroom : n + s.size ≤ cap
    · have hcs' : cur.size = cap := by simpa using hcs
      have hr2 := Lib.run_append_room_string (P := P) w t u ty e i ht hu hi hsize g n cap cur hg s hroom (by omega)
      rw [hr2] at hr
      injection hr with hv hw
      rw [← hv]; exact .inl rfl
    · have holds : ∀ j u, xs[j]? = some u → w.cell? ((⟨g, 0, none⟩ : Addr).add j) = some u := hown.cells (g := g) rfl
      have hr2 := Lib.run_append_grow_string (P := P) w t u ty e i (.int .u8 0) ht hu hi hz ⟨g, 0, none⟩ n cap xs (by rw [hsize]; simpa using hxl) holds s (by omega) (by omega) (by rw [hby]; exact growslice_fits (by omega) (by omega))
      rw [hr2] at hr
      injection hr with hv hw
      rw [← hv]; exact .inr rfl

theorem wpList_str {P : Program} (w : World) {ops : Array Oper} {rest : List Oper} {o : Oper} {a : Act} {Q : Exit → Act → World → Prop} (hgd : o.guard = none) (sl x : Operand) (t u : TypeId)
    (ho : o.op = .call { callee := .builtin .append, args := #[sl, x], argTypes := #[t, u] })
    (base : Nat) (e : TypeId) (i : TypeInfo) (ht : P.underlying t = some (.slice e)) (hu : P.underlying u = some .string) (hi : P.info? e = some i) (hz : i.zero = some (.int .u8 0))
    (hsize : i.size = 1) (hby : i.bytes = 1)
    (v : Value) (n : Nat) (xs : List Value) (hs : a.eval sl = v) (hown : w.ownsRow base e 1 v n xs) (s : ByteArray) (hx : a.eval x = .string s)
    (h63 : n + s.size ≤ maxLen) (hbytes : n + s.size ≤ 140737488355328) (hbase : base ≤ w.heap.size)
    (h : ∀ v' w', w'.ownsRow base e 1 v' (n + s.size) (xs ++ Lib.strCells s) → w.grownBy w' v.ownBlock → (v'.ownBlock = v.ownBlock ∨ v'.ownBlock = some w.heap.size) → wpList P ops Q rest (a.put o.dst v') w') :
    wpList P ops Q (o :: rest) a w := by
  refine wpList_plain hgd fun K hK => ?_
  obtain ⟨v', w', hr, h2, h3, h5⟩ := append_str (P := P) w base t u o.type e i ht hu hi hz hsize hby v n xs hown s h63 hbytes hbase
  unfold Oper.wp execOp
  simp only [ho, resolve, invoke, builtin, Sem.run_bind, Sem.run_pure, Result.andThen_ok, List.map_toArray, List.map_cons, List.map_nil, hs, hx, hr]
  exact hK _ _ (h v' w' h2 h3 h5)

/-- behind an append of a text -/
theorem Buf.text {base : Nat} {w wr w' : World} {v0 v v' : Value} {bs : List UInt8} (s : ByteArray) (hb : Grew w v0 wr v)
    {n : Nat} (hl : n = bs.length) (h : w'.ownsRow base 5 1 v' (n + s.size) (u8s bs ++ Lib.strCells s)) (hg : wr.grownBy w' v.ownBlock) (hat : v'.ownBlock = v.ownBlock ∨ v'.ownBlock = some wr.heap.size) :
    Buf base w' v' (bs ++ s.data.toList) ∧ Grew w v0 w' v' := by
  subst hl
  refine ⟨?_, hb.trans ⟨hg, ?_⟩⟩
  · unfold Buf
    have h1 : (bs ++ s.data.toList).length = bs.length + s.size := by simp
    have h2 : u8s (bs ++ s.data.toList) = u8s bs ++ Lib.strCells s := by simp [u8s, Lib.strCells]
    rw [h1, h2]
    exact h
  · rcases hat with hat | hat
    · exact .inl hat
    · exact .inr ⟨_, hat, Nat.le_refl _⟩
end Go.Proofs.YtcphfhfockjljaaGreatDoor.Msg
