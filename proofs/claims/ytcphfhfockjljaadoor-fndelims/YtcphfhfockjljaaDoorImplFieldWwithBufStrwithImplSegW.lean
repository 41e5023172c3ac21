import Derived.Test.YtcphfhfockjljaaDoorImplWrwithImplWritewithImplRepW
import Derived.Test.YtcphfhfockjljaaDoorMsgOk4withBufPutwithBufEsc
import Derived.Lib.AppendStr
import Derived.Test.YtcphfhfockjljaaDoorMsgOkwithMsgOk2withMsgOk3
namespace Go.Proofs.YtcphfhfockjljaaDoor.Msg
open Go.ChangeShapes Go.WideShapes Go.ChangeAt Go.RowKit
set_option linter.unusedVariables false
set_option linter.unusedSimpArgs false

set_option maxRecDepth 100000 in
set_option maxHeartbeats 1000000 in
theorem fieldWrite_any (base : Nat) (bs : List UInt8) (x : Field) (vx v : Value) (w0 w : World) (hb0 : w0.heap.size ≤ base) (hbel : Below base w0 w) {lo : Nat} (hx : RepsAt lo w0 vx x)
    (hown : Buf base w v bs) (hbase : base ≤ w.heap.size) (hl : bs.length + 3 * fieldSz x ≤ 4398046511104) :
    Calls Tryd.prog 44 #[.agg #[vx], v] w fun e w' => ∃ u R, e = .returned u ∧ Wr bs (fieldW x) R ∧ Buf base w' u R ∧ Grew w v w' u := by
  obtain ⟨i0, hi, hz0, hz1, hz2⟩ := u8_facts
  have hlx := hx.1
  obtain ⟨a, cap, rfl, hc⟩ := hx.form
  have HC := hide hc
  have hop := hown.own
  clear hc hx
  have h126 : ((({ data := #[124, 94, 126, 92, 38] } : ByteArray)[2].toNat : Nat) : Int) = 126 := rfl
  have HRW : Hid (fieldW x = joined 126 repW x) := rfl
  have hrl := fieldW_le x
  have FR : Hid (∀ wX vX, Grew w v wX vX → Below base w0 wX) := fun wX vX hg => hbel.trans (hg.below hop hbase)
  go_enter Tryd.func44, Tryd.ntmps44
  go_wp2_with fail
  go_loopg [1, 10] x.length (fun n v1 i wr => ∃ (k : Nat) (R : List UInt8), k ≤ x.length ∧ n = x.length - k ∧ i = .int .i64 k ∧ Wr bs (joined 126 repW (x.take k)) R ∧ Buf base wr v1 R ∧ Grew w v wr v1)
  case atStart => exact ⟨0, bs, Nat.zero_le _, by simp, rfl, by simpa [joined] using Wr.nil bs, hown.alloc _, (Grew.refl w v).alloc _⟩
  case round =>
    obtain ⟨k, R, hk, rfl, rfl, hW, hbuf, hg⟩ := hrel
    obtain ⟨W1, rfl⟩ : ∃ x, x = wr := ⟨_, rfl⟩
    have HW := hide hW
    have hRl := hW.len (joined_le 126 repW x k)
    clear hW
    have hz : base ≤ W1.heap.size := Nat.le_trans hbase hg.1.size
    have hb1 := FR.out _ _ hg
    by_cases hlt : k < x.length
    · obtain ⟨b, off, rfl, _, hbl, ve, hc0, hel⟩ := HC.out k hlt
      obtain ⟨a5, cap5, rfl, _⟩ := hel.form
      have hcell : W1.cell? ⟨b, off + k, none⟩ = some (.slice a5 x[k].length cap5) := by rw [hb1.cell (p := ⟨b, off + k, none⟩) (by show b < base; omega)]; simpa using hc0
      have HS : Hid (joined 126 repW (x.take (k + 1)) = joined 126 repW (x.take k) ++ (sp 126 k ++ repW x[k])) := joined_snoc 126 _ x k hlt
      have HSZ : Hid (R.length + 3 * repSz x[k] + 1 ≤ 17592186044416) := by
        have h1 : (fieldW x).length = (joined 126 repW x).length := rfl
        have h2 := at_le repSz x k hlt
        unfold fieldSz lenSum at hl hrl
        show R.length + 3 * repSz x[k] + 1 ≤ 17592186044416
        omega
      clear hc0
      by_cases hk0 : k = 0
      · have hk' : ¬ (0 : Int) < (k : Int) := by omega
        have HD : Hid (sp 126 k = []) := if_pos hk0
        clear hk0
        go_wp2_with fail
        refine (repWrite_any base R x[k] _ _ w0 _ hb0 (hb1.alloc hz _) hel (hbuf.alloc _) (by simp; omega) (by have := HSZ.out; omega)).mono ?_
        rintro e w2 ⟨u, R2, rfl, hW2, hu, hg2⟩
        have HW2 := hide hW2
        clear hW2
        go_wp2_with fail
        go_roundg (x.length - (k + 1))
        case rel => exact ⟨k + 1, R2, by omega, rfl, by go_num, by rw [HS.out, HD.out]; exact HW.out.trans HW2.out, hu, (hg.alloc _).trans hg2⟩
        case measure => omega
      · have hk' : (0 : Int) < (k : Int) := by omega
        have HD : Hid (sp 126 k = [126]) := if_neg hk0
        clear hk0
        have hRm : R.length + 1 ≤ 17592186044416 := by have := HSZ.out; omega
        have hne := hbuf.lt (Nat.le_refl W1.heap.size)
        have hbuf1 := hbuf.alloc (.cells #[.slice a5 x[k].length cap5] 50)
        have hg1 := hg.alloc (.cells #[.slice a5 x[k].length cap5] 50)
        clear hbuf hg
        go_wp2_with (first
          | (at_builtin; refine wpList_append_own_at _ rfl _ _ 22 rfl base 5 i0 (.int .u8 0) 1 1 Tryd.underlying22 hi hz0 hz1 hz2 rfl (by decide) _ _ _ rfl (World.ownsRow.alloc hbuf1 _) ⟨W1.heap.size + 1, 0, none⟩ 1 1 [.int .u8 126] rfl rfl ?c1 ?c2 ?c3 ?c4 ?c5 ?_)
          | fail)
        case c1 => have := new_cell (W1.alloc (.cells #[.slice a5 x[k].length cap5] 50)) (.int .u8 126) 5; simpa using this
        case c2 => exact one_u8 _
        case c3 => unfold maxLen; omega
        case c4 => omega
        case c5 => simp; omega
        intro v' w' hown' hgrow hnil hat
        have RR := Buf.snocC (bs := R) 126 126 (by decide) _ hg1 (by first | rfl | simp | (simp; omega)) hown' hgrow (by simpa using hat)
        have hbox : w'.cell? ⟨W1.heap.size, 0, none⟩ = some (.slice a5 x[k].length cap5) := by
          rw [World.cell?_of_block (hgrow.block W1.heap.size (by simp; omega) (fun e => hne e.symm)), World.cell?_of_block (Deep.blk_alloc_lt _ _ _ (by simp))]; simp
        clear hown' hgrow hnil hat
        obtain ⟨hR1, hR2⟩ := RR
        have hz2 : base ≤ w'.heap.size := Nat.le_trans hbase hR2.1.size
        have HB := hide (FR.out _ _ hR2)
        go_wp2_with fail
        refine (repWrite_any base (R ++ [126]) x[k] _ _ w0 _ hb0 HB.out hel hR1 hz2 (by have := HSZ.out; simp; omega)).mono ?_
        rintro e w2 ⟨u, R2, rfl, hW2, hu, hg2⟩
        have HW2 := hide hW2
        clear hW2
        go_wp2_with fail
        go_roundg (x.length - (k + 1))
        case rel => exact ⟨k + 1, R2, by omega, rfl, by go_num, by rw [HS.out, HD.out]; exact HW.out.trans ((Wr.full R [126]).trans HW2.out), hu, hR2.trans hg2⟩
        case measure => omega
    · go_wp2_with fail
      go_ret
      exact ⟨_, _, rfl, by rw [HRW.out]; have := HW.out; rwa [List.take_of_length_le (by omega)] at this, hbuf, hg⟩
end Go.Proofs.YtcphfhfockjljaaDoor.Msg

namespace Go.Proofs.YtcphfhfockjljaaDoor.Msg
open Go.ChangeShapes Go.WideShapes Go.ChangeAt Go.RowKit
set_option linter.unusedVariables false
set_option linter.unusedSimpArgs false

/-- the bytes of a text behind a slice of bytes: what is owned, and where it lies -/
theorem append_str {P : Program} (w : World) (base : Nat) (t u ty e : TypeId) (i : TypeInfo) (ht : P.underlying t = some (.slice e)) (hu : P.underlying u = some .string) (hi : P.info? e = some i) (hz : i.zero = some (.int .u8 0))
    (hsize : i.size = 1) (hby : i.bytes = 1) (v : Value) (n : Nat) (xs : List Value) (hown : w.ownsRow base e 1 v n xs) (s : ByteArray)
    (h63 : n + s.size ≤ maxLen) (hbytes : n + s.size ≤ 140737488355328) (hbase : base ≤ w.heap.size) :
    ∃ v' w', (Builtin.append_ #[t, u] ty #[v, .string s]).run P w = .ok v' w' ∧ w'.ownsRow base e 1 v' (n + s.size) (xs ++ Lib.strCells s) ∧ w.grownBy w' v.ownBlock ∧
      (v'.ownBlock = v.ownBlock ∨ v'.ownBlock = some w.heap.size) := by
  obtain ⟨v', w', hr, h2, h3, h4⟩ := Lib.run_append_own_string (P := P) w base t u ty e i ht hu hi hz hsize hby v n xs hown s h63 hbytes hbase
  refine ⟨v', w', hr, h2, h3, ?_⟩
  have hsmall : n + s.size ≤ 9223372036854775807 := by simp only [maxLen] at h63; omega
  have hxl : xs.length = n := by simpa using hown.1
  rcases hown.2 with ⟨rfl, rfl⟩ | ⟨g, cap, cur, rfl, hbg, hg, hnc, hcm, hcs, htake⟩
  · by_cases hm : s.size = 0
    · rw [h4.2 ⟨rfl, hm⟩]; exact .inl rfl
    · have hr2 := run_append_nil_string (P := P) w t u ty e i (.int .u8 0) ht hu hi hz s (by omega) (by omega) (by rw [hby]; omega)
      rw [hr2] at hr
      injection hr with hv hw
      rw [← hv]; exact .inr rfl
  · by_cases hroom : n + s.size ≤ cap
    · have hcs' : cur.size = cap := by simpa using hcs
      have hr2 := Lib.run_append_room_string (P := P) w t u ty e i ht hu hi hsize g n cap cur hg s hroom (by omega)
      rw [hr2] at hr
      injection hr with hv hw
      rw [← hv]; exact .inl rfl
    · have holds : ∀ j u, xs[j]? = some u → w.cell? ((⟨g, 0, none⟩ : Addr).add j) = some u := hown.cells (g := g) rfl
      have hr2 := Lib.run_append_grow_string (P := P) w t u ty e i (.int .u8 0) ht hu hi hz ⟨g, 0, none⟩ n cap xs (by rw [hsize]; simpa using hxl) holds s (by omega) (by omega) (by rw [hby]; exact growslice_fits (by omega) (by omega))
      rw [hr2] at hr
      injection hr with hv hw
      rw [← hv]; exact .inr rfl

theorem wpList_str {P : Program} (w : World) {ops : Array Oper} {rest : List Oper} {o : Oper} {a : Act} {Q : Exit → Act → World → Prop} (hgd : o.guard = none) (sl x : Operand) (t u : TypeId)
    (ho : o.op = .call { callee := .builtin .append, args := #[sl, x], argTypes := #[t, u] })
    (base : Nat) (e : TypeId) (i : TypeInfo) (ht : P.underlying t = some (.slice e)) (hu : P.underlying u = some .string) (hi : P.info? e = some i) (hz : i.zero = some (.int .u8 0))
    (hsize : i.size = 1) (hby : i.bytes = 1)
    (v : Value) (n : Nat) (xs : List Value) (hs : a.eval sl = v) (hown : w.ownsRow base e 1 v n xs) (s : ByteArray) (hx : a.eval x = .string s)
    (h63 : n + s.size ≤ maxLen) (hbytes : n + s.size ≤ 140737488355328) (hbase : base ≤ w.heap.size)
    (h : ∀ v' w', w'.ownsRow base e 1 v' (n + s.size) (xs ++ Lib.strCells s) → w.grownBy w' v.ownBlock → (v'.ownBlock = v.ownBlock ∨ v'.ownBlock = some w.heap.size) → wpList P ops Q rest (a.put o.dst v') w') :
    wpList P ops Q (o :: rest) a w := by
  refine wpList_plain hgd fun K hK => ?_
  obtain ⟨v', w', hr, h2, h3, h5⟩ := append_str (P := P) w base t u o.type e i ht hu hi hz hsize hby v n xs hown s h63 hbytes hbase
  unfold Oper.wp execOp
  simp only [ho, resolve, invoke, builtin, Sem.run_bind, Sem.run_pure, Result.andThen_ok, List.map_toArray, List.map_cons, List.map_nil, hs, hx, hr]
  exact hK _ _ (h v' w' h2 h3 h5)

/-- behind an append of a text -/
theorem Buf.text {base : Nat} {w wr w' : World} {v0 v v' : Value} {bs : List UInt8} (s : ByteArray) (hb : Grew w v0 wr v)
    {n : Nat} (hl : n = bs.length) (h : w'.ownsRow base 5 1 v' (n + s.size) (u8s bs ++ Lib.strCells s)) (hg : wr.grownBy w' v.ownBlock) (hat : v'.ownBlock = v.ownBlock ∨ v'.ownBlock = some wr.heap.size) :
    Buf base w' v' (bs ++ s.data.toList) ∧ Grew w v0 w' v' := by
  subst hl
  refine ⟨?_, hb.trans ⟨hg, ?_⟩⟩
  · unfold Buf
    have h1 : (bs ++ s.data.toList).length = bs.length + s.size := by simp
    have h2 : u8s (bs ++ s.data.toList) = u8s bs ++ Lib.strCells s := by simp [u8s, Lib.strCells]
    rw [h1, h2]
    exact h
  · rcases hat with hat | hat
    · exact .inl hat
    · exact .inr ⟨_, hat, Nat.le_refl _⟩
end Go.Proofs.YtcphfhfockjljaaDoor.Msg

namespace Go.Proofs.YtcphfhfockjljaaDoor.Msg
open Go.ChangeShapes Go.WideShapes Go.ChangeAt Go.RowKit
set_option linter.unusedVariables false
set_option linter.unusedSimpArgs false

/-- the delimiters, behind the name MSH -/
def dm (b : Bool) : List UInt8 := if b = true then [124, 94, 126, 92, 38] else []
/-- a segment as the program writes it: the delimiters go by the name -/
def segWI (x : Seg) : List UInt8 := x.name.data.toList ++ dm (mshB x.name) ++ fieldsW x.fields ++ [13]
theorem fieldsW_take_le (xs : List Field) (k : Nat) : (fieldsW (xs.take k)).length ≤ (fieldsW xs).length := by
  unfold fieldsW
  conv => rhs; rw [← List.take_append_drop k xs]
  rw [List.flatMap_append, List.length_append]
  omega

set_option maxRecDepth 100000 in
set_option maxHeartbeats 2000000 in
theorem segWrite_any (base : Nat) (bs : List UInt8) (x : Seg) (vx v : Value) (w0 w : World) (hb0 : w0.heap.size ≤ base) (hbel : Below base w0 w) {lo : Nat} (hx : FieldsAt lo w0 vx x.fields)
    (hown : Buf base w v bs) (hbase : base ≤ w.heap.size) (hl : bs.length + 3 * segSz x ≤ 1099511627776) :
    Calls Tryd.prog 32 #[.agg #[.string x.name, vx], v] w fun e w' => ∃ u R, e = .returned u ∧ Wr bs (segWI x) R ∧ Buf base w' u R ∧ Grew w v w' u := by
  obtain ⟨i0, hi, hz0, hz1, hz2⟩ := u8_facts
  have hlx := hx.1
  obtain ⟨a, cap, rfl, hc⟩ := hx.form
  have HC := hide hc
  have hop := hown.own
  have hne := hown.lt (Nat.le_refl w.heap.size)
  clear hc hx
  have h124 : ((({ data := #[124, 94, 126, 92, 38] } : ByteArray)[0].toNat : Nat) : Int) = 124 := rfl
  have HM : Hid (mshB x.name = (x.name.toList == [77, 83, 72])) := rfl
  have hfl := fieldsW_le x.fields
  have hsz : segSz x = x.name.size + lenSum fieldSz x.fields := rfl
  have hnl : x.name.data.toList.length = x.name.size := by simp
  have FR : Hid (∀ wX vX, Grew (w.alloc (.cells #[.string x.name, .slice a x.fields.length cap] 44)) v wX vX →
      Below base w0 wX ∧ wX.cell? ⟨w.heap.size, 1, none⟩ = some (.slice a x.fields.length cap) ∧ base ≤ wX.heap.size ∧ wX.cell? ⟨w.heap.size, 0, none⟩ = some (.string x.name) ∧ Grew w v wX vX) := fun wX vX hg => by
    refine ⟨(hbel.alloc hbase _).trans (hg.below hop (by simp; omega)), ?_, ?_, ?_, ((Grew.refl w v).alloc _).trans hg⟩
    · rw [World.cell?_of_block (hg.block (b := w.heap.size) (by simp) hne)]; simp
    · have := hg.1.size; simp at this; omega
    · rw [World.cell?_of_block (hg.block (b := w.heap.size) (by simp) hne)]; simp
  have hown1 := hown.alloc (.cells #[.string x.name, .slice a x.fields.length cap] 44)
  have hgr0 : Grew (w.alloc (.cells #[.string x.name, .slice a x.fields.length cap] 44)) v (w.alloc (.cells #[.string x.name, .slice a x.fields.length cap] 44)) v := Grew.refl _ _
  have hnm : bs.length + x.name.size ≤ 1099511627776 := by omega
  obtain ⟨bm, hbm⟩ : ∃ b, (x.name.toList == [77, 83, 72]) = b := ⟨_, rfl⟩
  have HMB : Hid (mshB x.name = bm) := by rw [HM.out, hbm]; trivial
  go_enter Tryd.func32, Tryd.ntmps32
  go_upto_if 13 with (first
    | (at_builtin; refine wpList_str _ rfl _ _ 22 9 rfl base 5 i0 Tryd.underlying22 Tryd.underlying9 hi hz0 hz1 hz2 _ _ _ rfl hown1 x.name rfl ?c3 ?c4 ?c5 ?_)
    | fail)
  case c3 => unfold maxLen; omega
  case c4 => omega
  case c5 => simp; omega
  intro v1 w1 hown' hgrow hat
  have RR := Buf.text (bs := bs) x.name hgr0 rfl hown' hgrow (by simpa using hat)
  clear hown' hgrow hat hown1 hgr0
  obtain ⟨hR1, hR2⟩ := RR
  obtain ⟨_, _, hz1', hbn, _⟩ := FR.out _ _ hR2
  go_upto_if 13 with fail
  go_cut [1] (fun s1 wx => Buf base wx s1 (bs ++ x.name.data.toList ++ dm (mshB x.name)) ∧ Grew (w.alloc (.cells #[.string x.name, .slice a x.fields.length cap] 44)) v wx s1)
  case first =>
    cases bm
    · clear hbm
      go_wp2_with fail
      go_meet
      case rel => exact ⟨by rw [HMB.out]; simpa [dm] using hR1, hR2⟩
    · clear hbm
      go_wp2_with (first
        | (at_builtin; refine wpList_str _ rfl _ _ 22 9 rfl base 5 i0 Tryd.underlying22 Tryd.underlying9 hi hz0 hz1 hz2 _ _ _ rfl hR1 ⟨#[124, 94, 126, 92, 38]⟩ rfl ?c3 ?c4 ?c5 ?_)
        | fail)
      case c3 => have : (⟨#[124, 94, 126, 92, 38]⟩ : ByteArray).size = 5 := rfl; rw [List.length_append]; unfold maxLen; omega
      case c4 => have : (⟨#[124, 94, 126, 92, 38]⟩ : ByteArray).size = 5 := rfl; rw [List.length_append]; omega
      case c5 => exact hz1'
      intro v2 w2 hown' hgrow hat
      have RR := Buf.text (bs := bs ++ x.name.data.toList) ⟨#[124, 94, 126, 92, 38]⟩ hR2 (n := bs.length + x.name.size) (by simp) hown' hgrow hat
      clear hown' hgrow hat
      obtain ⟨hR3, hR4⟩ := RR
      go_wp2_with fail
      go_meet
      case rel => exact ⟨by rw [HMB.out]; simpa [dm] using hR3, hR4⟩
  case rest =>
    clear hbm
    clear hR1 hR2 hz1' hbn
    obtain ⟨hbuf0, hg0⟩ := hcut
    obtain ⟨Wc, rfl⟩ : ∃ x, x = wc := ⟨_, rfl⟩
    obtain ⟨_, hbx, _, _, _⟩ := FR.out _ _ hg0
    have hPl : (bs ++ x.name.data.toList ++ dm (mshB x.name)).length ≤ bs.length + x.name.size + 5 := by
      rw [List.length_append, List.length_append]
      unfold dm
      split <;> simp
    have HP : Hid (bs ++ segWI x = bs ++ x.name.data.toList ++ dm (mshB x.name) ++ (fieldsW x.fields ++ [13])) := by unfold segWI; simp only [List.append_assoc]; trivial
    generalize bs ++ x.name.data.toList ++ dm (mshB x.name) = P at *
    go_wp2_with fail
    clear hbx
    go_loopg [1, 19] x.fields.length (fun n v1 i wr => ∃ (k : Nat) (R : List UInt8), k ≤ x.fields.length ∧ n = x.fields.length - k ∧ i = .int .i64 k ∧ Wr P (fieldsW (x.fields.take k)) R ∧ Buf base wr v1 R ∧ Grew (w.alloc (.cells #[.string x.name, .slice a x.fields.length cap] 44)) v wr v1)
    case atStart => exact ⟨0, P, Nat.zero_le _, by simp, rfl, by simpa [fieldsW] using Wr.nil P, hbuf0, hg0⟩
    case round =>
      clear hbuf0 hg0
      obtain ⟨k, R, hk, rfl, rfl, hW, hbuf, hg⟩ := hrel
      obtain ⟨W1, rfl⟩ : ∃ x, x = wr := ⟨_, rfl⟩
      have HW := hide hW
      have hRl := hW.len (fieldsW_take_le x.fields k)
      clear hW
      obtain ⟨hb1, _, hz, _, _⟩ := FR.out _ _ hg
      by_cases hlt : k < x.fields.length
      · obtain ⟨b, off, rfl, _, hbl, ve, hc0, hel⟩ := HC.out k hlt
        obtain ⟨a5, cap5, rfl, _⟩ := hel.form
        have hcell : W1.cell? ⟨b, off + k, none⟩ = some (.slice a5 x.fields[k].length cap5) := by rw [hb1.cell (p := ⟨b, off + k, none⟩) (by show b < base; omega)]; simpa using hc0
        have HS := hide (fieldsW_snoc x.fields k hlt)
        have HSZ : Hid (R.length + 3 * fieldSz x.fields[k] + 1 ≤ 4398046511104) := by
          have h2 := at_le fieldSz x.fields k hlt
          unfold lenSum at hsz hfl
          show R.length + 3 * fieldSz x.fields[k] + 1 ≤ 4398046511104
          omega
        have hRm : R.length + 1 ≤ 4398046511104 := by have := HSZ.out; omega
        clear hc0
        have hne1 := hbuf.lt (Nat.le_refl W1.heap.size)
        have hbuf1 := hbuf.alloc (.cells #[.slice a5 x.fields[k].length cap5] 47)
        have hg1 := hg.alloc (.cells #[.slice a5 x.fields[k].length cap5] 47)
        clear hbuf hg
        go_wp2_with (first
          | (at_builtin; refine wpList_append_own_at _ rfl _ _ 22 rfl base 5 i0 (.int .u8 0) 1 1 Tryd.underlying22 hi hz0 hz1 hz2 rfl (by decide) _ _ _ rfl (World.ownsRow.alloc hbuf1 _) ⟨W1.heap.size + 1, 0, none⟩ 1 1 [.int .u8 124] rfl rfl ?c1 ?c2 ?c3 ?c4 ?c5 ?_)
          | fail)
        case c1 => have := new_cell (W1.alloc (.cells #[.slice a5 x.fields[k].length cap5] 47)) (.int .u8 124) 5; simpa using this
        case c2 => exact one_u8 _
        case c3 => unfold maxLen; omega
        case c4 => omega
        case c5 => simp; omega
        intro v' w' hown' hgrow hnil hat
        have RR := Buf.snocC (bs := R) 124 124 (by decide) _ hg1 (by first | rfl | simp | (simp; omega)) hown' hgrow (by simpa using hat)
        have hbox : w'.cell? ⟨W1.heap.size, 0, none⟩ = some (.slice a5 x.fields[k].length cap5) := by
          rw [World.cell?_of_block (hgrow.block W1.heap.size (by simp; omega) (fun e => hne1 e.symm)), World.cell?_of_block (Deep.blk_alloc_lt _ _ _ (by simp))]; simp
        clear hown' hgrow hnil hat
        obtain ⟨hR1, hR2⟩ := RR
        obtain ⟨hB, _, hz2', _, _⟩ := FR.out _ _ hR2
        have HB := hide hB
        clear hB
        go_wp2_with fail
        refine (fieldWrite_any base (R ++ [124]) x.fields[k] _ _ w0 _ hb0 HB.out hel hR1 hz2' (by have := HSZ.out; simp; omega)).mono ?_
        rintro e w2 ⟨u, R2, rfl, hW2, hu, hg2⟩
        have HW2 := hide hW2
        clear hW2
        go_wp2_with fail
        go_roundg (x.fields.length - (k + 1))
        case rel => exact ⟨k + 1, R2, by omega, rfl, by go_num, by rw [HS.out]; exact HW.out.trans ((Wr.full R [124]).trans HW2.out), hu, hR2.trans hg2⟩
        case measure => omega
      · have HW2 : Hid (Wr bs (segWI x) (R ++ [13])) := by
          have h1 := HW.out
          rw [List.take_of_length_le (by omega)] at h1
          have h2 := h1.trans (Wr.full R [13])
          unfold Wr at h2 ⊢
          rw [HP.out]
          exact h2
        have hRm : R.length + 1 ≤ 4398046511104 := by unfold lenSum at hsz hfl; omega
        have hne1 := hbuf.lt (Nat.le_refl W1.heap.size)
        go_wp2_with (first
          | (at_builtin; refine wpList_append_own_at _ rfl _ _ 22 rfl base 5 i0 (.int .u8 0) 1 1 Tryd.underlying22 hi hz0 hz1 hz2 rfl (by decide) _ _ _ rfl (World.ownsRow.alloc hbuf _) ⟨W1.heap.size, 0, none⟩ 1 1 [.int .u8 13] rfl rfl ?c1 ?c2 ?c3 ?c4 ?c5 ?_)
          | fail)
        case c1 => exact new_cell _ _ _
        case c2 => exact one_u8 _
        case c3 => unfold maxLen; omega
        case c4 => omega
        case c5 => simp; omega
        intro v' w' hown' hgrow hnil hat
        have RR := Buf.snocC (bs := R) 13 13 (by decide) _ hg (by first | rfl | simp | (simp; omega)) hown' hgrow hat
        clear hown' hgrow hnil hat
        obtain ⟨hR1, hR2⟩ := RR
        obtain ⟨_, _, _, _, hgw⟩ := FR.out _ _ hR2
        go_wp2_with fail
        go_ret
        exact ⟨_, _, rfl, HW2.out, hR1, hgw⟩
end Go.Proofs.YtcphfhfockjljaaDoor.Msg
