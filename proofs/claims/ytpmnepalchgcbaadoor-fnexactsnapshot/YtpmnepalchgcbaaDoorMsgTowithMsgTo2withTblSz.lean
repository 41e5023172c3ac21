import Derived.Test.YtpmnepalchgcbaaDoorMsgDatawithMsgSzwithMsgSz2
import Derived.Test.YtpmnepalchgcbaaDoorMsgSz3withMsgEqwithMsgEq2
import Derived.Deep.OwnRows
import Derived.Deep.Heap
namespace Go.Proofs.YtpmnepalchgcbaaDoor.Msg
open Go.ChangeShapes Go.WideShapes Go.ChangeAt Go.RowKit
set_option linter.unusedVariables false
set_option linter.unusedSimpArgs false

theorem At.form {α : Type} {n : Nat} {R : Nat → World → Nat → Nat → α → Prop} {lo : Nat} {w : World} {v : Value} {xs : List α} (h : At n R lo w v xs) :
    ∃ a cap, v = .slice a xs.length cap ∧ ∀ k (h : k < xs.length), ∃ b off, a = some ⟨b, off, none⟩ ∧ lo ≤ b ∧ b < w.heap.size ∧ R lo w b (off + k * n) xs[k] := by
  obtain ⟨_, h⟩ := h
  rcases h with ⟨a, cap, rfl, rfl⟩ | ⟨b, off, cap, rfl, hb, h⟩
  · exact ⟨a, cap, rfl, fun k hk => absurd hk (by simp)⟩
  · exact ⟨_, cap, rfl, fun k hk => ⟨b, off, rfl, hb.1, hb.2, h k hk⟩⟩

theorem make_rows {P : Program} (t e : TypeId) (z : Value) (zc : Array Value) (sz bytes : Nat) (ht : P.underlying t = some (.slice e))
    (hinfo : (P.info? e).map (fun i => (i.zero, i.size, i.bytes)) = some (some z, sz, bytes)) (hz : z.cells = zc) (n : Nat) (hb : bytes * n ≤ 281474976710656) (hn : n ≤ 9223372036854775807) (w : World) :
    Sem.run P (Instr.makeSlice t (.int .i64 (n : Int)) (.int .i64 (n : Int))) w = .ok (.slice (some ⟨w.heap.size, 0, none⟩) n n) (w.alloc (.cells (madeCells zc (n * sz)) e)) := by
  cases hi : P.info? e with
  | none => rw [hi] at hinfo; cases hinfo
  | some i =>
    rw [hi] at hinfo
    simp only [Option.map_some, Option.some.injEq, Prod.mk.injEq] at hinfo
    obtain ⟨h1, h2, h3⟩ := hinfo
    rw [run_make w t e i z ht hi h1 .i64 .i64 n n (by omega) (Int.le_refl _) (by rw [h3, ← Int.natCast_mul]; omega) (by omega)]
    rw [hz, h2, Int.toNat_natCast]

/-- what 'make' lays -/
theorem made_row (w : World) (zc : Array Value) (n : Nat) (e : TypeId) (hz : 0 < zc.size) : (w.alloc (.cells (madeCells zc n) e)).rowIs w.heap.size e n (fun j => zc[j % zc.size]!) := by
  have := World.rowIs_alloc w (madeCells zc n) e (fun j => zc[j % zc.size]!) (by intro i hi; rw [size_madeCells] at hi; simp [madeCells, hi])
  rw [size_madeCells] at this
  exact this

def strsRow (xs : List ByteArray) (k : Nat) (j : Nat) : Value := .string ((xs.take k).getD j ByteArray.empty)
theorem strsRow_step (xs : List ByteArray) (k : Nat) (h : k < xs.length) (j : Nat) : (if j = k then Value.string xs[k] else strsRow xs k j) = strsRow xs (k + 1) j := by
  unfold strsRow
  by_cases hj : j = k
  · subst hj
    rw [if_pos rfl]
    simp [List.getD_eq_getElem?_getD, List.getElem?_take, h]
  · rw [if_neg hj]
    by_cases hl : j < k
    · simp [List.getD_eq_getElem?_getD, List.getElem?_take, hl, Nat.lt_succ_of_lt hl]
    · have h2 : ¬ j < k + 1 := by omega
      simp [List.getD_eq_getElem?_getD, List.getElem?_take, hl, h2]
theorem strsRow_at (xs : List ByteArray) (j : Nat) (h : j < xs.length) : strsRow xs xs.length j = .string xs[j] := by
  unfold strsRow
  simp [List.getD_eq_getElem?_getD, h]

theorem strs_of_row {w : World} {B : Nat} {t : TypeId} {xs : List ByteArray} {cap : Nat} (hl : xs.length ≤ 9223372036854775807) (hs : ∀ i (h : i < xs.length), xs[i].size ≤ 9223372036854775807)
    (h : w.rowIs B t xs.length (strsRow xs xs.length)) : StrsAt B w (.slice (some ⟨B, 0, none⟩) xs.length cap) xs :=
  ⟨hl, .inr ⟨B, 0, cap, rfl, ⟨Nat.le_refl _, h.lt⟩, fun i hi => ⟨by have := h.cell hi; rw [strsRow_at xs i hi] at this; simpa using this, hs i hi⟩⟩⟩

theorem info_string : (Tryd.prog.info? 9).map (fun i => (i.zero, i.size, i.bytes)) = some (some (.string ByteArray.empty), 1, 16) := by kernel_rfl

set_option maxHeartbeats 400000 in
theorem toStrs_any (xs : List ByteArray) (v : Value) (w : World) (hn : xs.length ≤ 1048576) {lo : Nat} (hv : StrsAt lo w v xs) :
    Calls Tryd.prog 45 #[v] w fun e w' => ∃ u, e = .returned u ∧ StrsAt w.heap.size w' u xs ∧ Below w.heap.size w w' := by
  have hl := hv.1
  have hsz : ∀ i (h : i < xs.length), xs[i].size ≤ 9223372036854775807 := fun i h => by
    obtain ⟨a, cap, _, hc⟩ := hv.form
    obtain ⟨b, off, _, _, _, hr⟩ := hc i h
    exact hr.2
  obtain ⟨a, cap, rfl, hc⟩ := hv.form
  clear hv
  have HZ := hide hsz
  clear hsz
  have hmk := make_rows (P := Tryd.prog) 36 9 (.string ByteArray.empty) #[.string ByteArray.empty] 1 16 Tryd.underlying36 info_string rfl xs.length (by omega) (by omega)
  have hrow0 : (w.alloc (Obj.cells (madeCells #[Value.string ByteArray.empty] xs.length) 9)).rowIs w.heap.size 9 xs.length (strsRow xs 0) := by
    have := made_row w #[Value.string ByteArray.empty] xs.length 9 (by decide)
    refine this.congr ?_
    intro i _
    simp [strsRow, Nat.mod_one]
  go_enter Tryd.func45, Tryd.ntmps45
  go_wp2
  go_loopw [4] (fun i w1 => ∃ k : Nat, k ≤ xs.length ∧ i = .int .i64 k ∧ w1.rowIs w.heap.size 9 xs.length (strsRow xs k) ∧ Below w.heap.size w w1) (fun i _ => xs.length - (intOf i).toNat)
  case atStart => exact ⟨0, Nat.zero_le _, rfl, hrow0, (Below.refl _ _).alloc (Nat.le_refl _) _⟩
  case round =>
    obtain ⟨k, hk, rfl, hrow, hb⟩ := hrel
    by_cases hlt : k < xs.length
    · obtain ⟨b, off, rfl, _, hbl, hr⟩ := hc k hlt
      have h1 : wr.cell? ⟨b, off + k, none⟩ = some (.string xs[k]) := by rw [hb.cell (p := ⟨b, off + k, none⟩) hbl]; simpa using hr.1
      have h2 := hrow.cell hlt
      have h3 := hrow.frozen k
      clear hr hc
      go_wp2
      go_roundw
      case rel => exact ⟨k + 1, by omega, by go_num, (hrow.set k (.string xs[k])).congr fun j _ => strsRow_step xs k hlt j, hb.setCell (by simp) _⟩
      case measure => simp [intOf]; omega
    · obtain rfl : k = xs.length := by omega
      go_wp2
      go_ret
      exact ⟨_, rfl, strs_of_row hl HZ.out hrow, hb⟩
end Go.Proofs.YtpmnepalchgcbaaDoor.Msg

namespace Go.Proofs.YtpmnepalchgcbaaDoor.Msg
open Go.ChangeShapes Go.WideShapes Go.ChangeAt Go.RowKit
set_option linter.unusedVariables false
set_option linter.unusedSimpArgs false

theorem bcells {W w1 : World} (hb : Below W.heap.size W w1) : (∀ b o, b < W.heap.size → w1.cell? ⟨b, o, none⟩ = W.cell? ⟨b, o, none⟩) ∧ (∀ b o, b < W.heap.size → w1.frozen? ⟨b, o, none⟩ = W.frozen? ⟨b, o, none⟩) :=
  ⟨fun b o h => hb.cell (p := ⟨b, o, none⟩) h, fun b o h => hb.frozen (p := ⟨b, o, none⟩) h⟩

theorem Same.setCell {lo : Nat} {w w' : World} (h : Same lo w w') {b o : Nat} (hb : b < lo) (v : Value) : Same lo w (w'.setCell ⟨b, o, none⟩ v) :=
  ⟨by rw [Deep.nblk_setCell]; exact h.1, fun k h1 h2 => by rw [Deep.blk_setCell_other _ _ _ _ (by simp; omega)]; exact h.2 k h1 h2⟩
theorem Same.drew {lo : Nat} {w w' : World} (h : Same lo w w') : Same lo w w'.drew := h

/-- the state of a loop that fills a row of new elements, one cell each -/
def Filling {α : Type} (A : Nat → World → Value → α → Prop) (w : World) (t : TypeId) (xs : List α) (k : Nat) (w1 : World) : Prop :=
  (∃ f, w1.rowIs w.heap.size t xs.length f ∧ ∀ j (h : j < xs.length), j < k → A (w.heap.size + 1) w1 (f j) xs[j]) ∧ Below w.heap.size w w1

theorem filling_step {α : Type} {A : Nat → World → Value → α → Prop} (hsame : ∀ lo w w' v x, A lo w v x → Same lo w w' → A lo w' v x) (hmono : ∀ lo lo' w v x, A lo w v x → lo' ≤ lo → A lo' w v x)
    {w wr w2 : World} {t : TypeId} {xs : List α} {k : Nat} (h : Filling A w t xs k wr) (hb2 : Below wr.heap.size wr w2) (hk : k < xs.length) {u : Value} (hu : A wr.heap.size w2 u xs[k]) :
    Filling A w t xs (k + 1) (w2.setCell ⟨w.heap.size, k, none⟩ u) := by
  obtain ⟨⟨f, hrow, hel⟩, hb⟩ := h
  have hlt := hrow.lt
  have hrow2 := hrow.of_block (hb2.block _ hlt)
  refine ⟨⟨_, hrow2.set k u, fun j hj hjk => ?_⟩, (hb.trans (hb2.mono hb.size)).setCell (by simp) _⟩
  by_cases e : j = k
  · subst e
    rw [if_pos rfl]
    exact hsame _ _ _ _ _ (hmono _ (w.heap.size + 1) _ _ _ hu (by omega)) ((Same.refl _ _).setCell (by omega) _)
  · rw [if_neg e]
    have h1 := hel j hj (by omega)
    exact hsame _ _ _ _ _ (hsame _ _ _ _ _ h1 (Same.of_below hb2)) ((Same.refl _ _).setCell (by omega) _)

theorem reps_of_filling {w w1 : World} {t : TypeId} {xs : List Rep} {cap : Nat} (hl : xs.length ≤ 9223372036854775807) (h : Filling StrsAt w t xs xs.length w1) :
    RepsAt w.heap.size w1 (.slice (some ⟨w.heap.size, 0, none⟩) xs.length cap) xs := by
  obtain ⟨⟨f, hrow, hel⟩, hb⟩ := h
  exact ⟨hl, .inr ⟨_, 0, cap, rfl, ⟨Nat.le_refl _, hrow.lt⟩, fun i hi => ⟨f i, by have := hrow.cell hi; simpa using this, At.mono mono_str (hel i hi hi) (by omega)⟩⟩⟩

end Go.Proofs.YtpmnepalchgcbaaDoor.Msg

namespace Go.Proofs.YtpmnepalchgcbaaDoor.Msg
open Go.ChangeShapes Go.WideShapes Go.ChangeAt Go.RowKit
set_option linter.unusedVariables false
set_option linter.unusedSimpArgs false

/-! sessions and tables -/
structure Sess where
  client : Int
  tag : ByteArray
  query : ByteArray
  page : Int
  state : Int
  rows : List ByteArray
  cursor : Int
def sessV (x : Sess) (v : Value) : Value := .agg #[.int .i64 x.client, .string x.tag, .string x.query, .int .i64 x.page, .int .i64 x.state, v, .int .i64 x.cursor]
def SessR (lo : Nat) (w : World) (b off : Nat) (x : Sess) : Prop :=
  w.cell? ⟨b, off, none⟩ = some (.int .i64 x.client) ∧ w.cell? ⟨b, off + 1, none⟩ = some (.string x.tag) ∧ w.cell? ⟨b, off + 2, none⟩ = some (.string x.query) ∧ w.cell? ⟨b, off + 3, none⟩ = some (.int .i64 x.page) ∧ w.cell? ⟨b, off + 4, none⟩ = some (.int .i64 x.state) ∧ w.cell? ⟨b, off + 6, none⟩ = some (.int .i64 x.cursor) ∧
    x.tag.size ≤ 9223372036854775807 ∧ x.query.size ≤ 9223372036854775807 ∧ ∃ v, w.cell? ⟨b, off + 5, none⟩ = some v ∧ StrsAt lo w v x.rows
def SesssAt : Nat → World → Value → List Sess → Prop := At 7 SessR
theorem kept_sess : Kept SessR := fun lo w w' b off x h h1 h2 hb => by
  obtain ⟨g0, g1, g2, g3, g4, g6, z1, z2, v, g5, gs⟩ := h
  exact ⟨by rw [hb.cell h1 h2]; exact g0, by rw [hb.cell h1 h2]; exact g1, by rw [hb.cell h1 h2]; exact g2, by rw [hb.cell h1 h2]; exact g3, by rw [hb.cell h1 h2]; exact g4, by rw [hb.cell h1 h2]; exact g6, z1, z2, v, by rw [hb.cell h1 h2]; exact g5, At.same kept_str gs hb⟩
theorem mono_sess : Mono SessR := fun _ _ _ _ _ _ h hl => let ⟨g0, g1, g2, g3, g4, g6, z1, z2, v, g5, gs⟩ := h; ⟨g0, g1, g2, g3, g4, g6, z1, z2, v, g5, At.mono mono_str gs hl⟩
def sessSz (x : Sess) : Nat := x.tag.size + x.query.size + repSz x.rows
def tblSz (xs : List Sess) : Nat := lenSum sessSz xs

set_option maxHeartbeats 2000000 in
theorem szSess_any (x : Sess) (v : Value) (left : Int) (w : World) (h0 : 0 ≤ left) (h9 : left ≤ 1048576) {lo : Nat} (h1 : x.tag.size ≤ 9223372036854775807) (h2 : x.query.size ≤ 9223372036854775807) (hv : StrsAt lo w v x.rows) :
    Calls Tryd.prog 22 #[sessV x v, .int .i64 left] w fun e w' => e = .returned (.int .i64 (rest left (sessSz x))) ∧ Below w.heap.size w w' := by
  obtain ⟨client, tag, query, page, state, rows, cursor⟩ := x
  simp only at h1 h2 hv
  obtain ⟨a, cap, hf, _⟩ := hv.form
  subst hf
  show Calls Tryd.prog 22 #[.agg #[.int .i64 client, .string tag, .string query, .int .i64 page, .int .i64 state, .slice a rows.length cap, .int .i64 cursor], .int .i64 left] w _
  have HB := hide ((Below.refl w.heap.size w).alloc (Nat.le_refl _) (Obj.cells #[.int .i64 client, .string tag, .string query, .int .i64 page, .int .i64 state, .slice a rows.length cap, .int .i64 cursor] 59))
  have HSS := hide (fun W hW l k0 k1 => szStrs_any rows (.slice a rows.length cap) l W k0 k1 (At.kept kept_str hv (w' := W) hW))
  have HS : Hid (sessSz ⟨client, tag, query, page, state, rows, cursor⟩ = tag.size + query.size + repSz rows) := rfl
  clear hv
  by_cases a1 : left - tag.size < 0
  · have HX := hide (show rest left (sessSz ⟨client, tag, query, page, state, rows, cursor⟩) = -1 from rest_no (by rw [HS.out]; omega))
    go_enter Tryd.func22, Tryd.ntmps22
    go_wp2_with fail
    go_ret
    exact ⟨ret_int HX.out.symm, HB.out⟩
  by_cases a2 : left - tag.size - query.size < 0
  · have HX := hide (show rest left (sessSz ⟨client, tag, query, page, state, rows, cursor⟩) = -1 from rest_no (by rw [HS.out]; omega))
    go_enter Tryd.func22, Tryd.ntmps22
    go_wp2_with fail
    go_ret
    exact ⟨ret_int HX.out.symm, HB.out⟩
  have HS2 := hide (HSS.out _ HB.out (left - tag.size - query.size) (by omega) (by omega))
  by_cases a3 : ((repSz rows : Nat) : Int) ≤ left - tag.size - query.size
  · have HX := hide (show rest left (sessSz ⟨client, tag, query, page, state, rows, cursor⟩) = left - tag.size - query.size - repSz rows by rw [rest_yes (by rw [HS.out]; omega), HS.out]; omega)
    rw [rest_yes a3] at HS2
    have hnn : ¬ left - tag.size - query.size - (repSz rows : Nat) < 0 := by omega
    go_enter Tryd.func22, Tryd.ntmps22
    go_wp2_with fail
    refine HS2.out.mono ?_
    rintro e w4 ⟨rfl, rfl⟩
    go_wp2_with fail
    go_ret
    exact ⟨ret_int HX.out.symm, HB.out⟩
  · have HX := hide (show rest left (sessSz ⟨client, tag, query, page, state, rows, cursor⟩) = -1 from rest_no (by rw [HS.out]; omega))
    rw [rest_no (by omega)] at HS2
    go_enter Tryd.func22, Tryd.ntmps22
    go_wp2_with fail
    refine HS2.out.mono ?_
    rintro e w4 ⟨rfl, rfl⟩
    go_wp2_with fail
    go_ret
    exact ⟨ret_int HX.out.symm, HB.out⟩

set_option maxHeartbeats 1000000 in
theorem szSesss_any (xs : List Sess) (v : Value) (left : Int) (w : World) (h0 : 0 ≤ left) (h1 : left ≤ 1048576) {lo : Nat} (hv : SesssAt lo w v xs) :
    Calls Tryd.prog 9 #[v, .int .i64 left] w fun e w' => e = .returned (.int .i64 (rest left (tblSz xs))) ∧ Below w.heap.size w w' := by
  obtain ⟨hl, hv⟩ := hv
  have HR : Hid (tblSz xs = xs.length + sumOf sessSz xs) := rfl
  rcases hv with ⟨a0, c0, rfl, rfl⟩ | ⟨b, off, cap, rfl, ⟨_, hlt⟩, hc⟩
  · go_enter Tryd.func9, Tryd.ntmps9
    go_wp2
    go_loop [1, 5] (fun r i => r = .int .i64 left ∧ i = .int .i64 0) (fun _ _ => 0)
    case atStart => exact ⟨rfl, rfl⟩
    case round =>
      obtain ⟨rfl, rfl⟩ := hrel
      go_wp2
      go_ret
      exact ⟨ret_int (by rw [rest_yes] <;> simp [tblSz, lenSum, sumOf]; omega), Below.refl _ _⟩
  · by_cases hfit : (xs.length : Int) ≤ left
    · have hneg : ¬ left - (xs.length : Int) < 0 := by omega
      go_enter Tryd.func9, Tryd.ntmps9
      go_wp2
      go_loopw [1, 5] (fun r i w1 => ∃ k : Nat, k ≤ xs.length ∧ i = .int .i64 k ∧ r = .int .i64 (left - xs.length - (sumOf sessSz (xs.take k) : Nat)) ∧ ((xs.length + sumOf sessSz (xs.take k) : Nat) : Int) ≤ left ∧ Below w.heap.size w w1) (fun _ i _ => xs.length - (intOf i).toNat)
      case atStart => exact ⟨0, Nat.zero_le _, rfl, by simp [sumOf], by simpa [sumOf] using hfit, Below.refl _ _⟩
      case round =>
        obtain ⟨k, hk, rfl, rfl, hs, hb⟩ := hrel
        by_cases hlt2 : k < xs.length
        · obtain ⟨c0, c1, c2, c3, c4, c6, z1, z2, ve, c5, hel⟩ := hc k hlt2
          have d0 : wr.cell? ⟨b, off + k * 7, none⟩ = some (.int .i64 xs[k].client) := by rw [bcell hb _ _ hlt]; exact c0
          have d1 : wr.cell? ⟨b, off + k * 7 + 1, none⟩ = some (.string xs[k].tag) := by rw [bcell hb _ _ hlt]; exact c1
          have d2 : wr.cell? ⟨b, off + k * 7 + 2, none⟩ = some (.string xs[k].query) := by rw [bcell hb _ _ hlt]; exact c2
          have d3 : wr.cell? ⟨b, off + k * 7 + 3, none⟩ = some (.int .i64 xs[k].page) := by rw [bcell hb _ _ hlt]; exact c3
          have d4 : wr.cell? ⟨b, off + k * 7 + 4, none⟩ = some (.int .i64 xs[k].state) := by rw [bcell hb _ _ hlt]; exact c4
          have d5 : wr.cell? ⟨b, off + k * 7 + 5, none⟩ = some ve := by rw [bcell hb _ _ hlt]; exact c5
          have d6 : wr.cell? ⟨b, off + k * 7 + 6, none⟩ = some (.int .i64 xs[k].cursor) := by rw [bcell hb _ _ hlt]; exact c6
          have hel' : StrsAt lo wr ve xs[k].rows := At.kept kept_str hel hb
          have HS : Hid (sumOf sessSz (xs.take (k + 1)) = sumOf sessSz (xs.take k) + sessSz xs[k]) := sum_take sessSz xs k hlt2
          have HL : Hid (sumOf sessSz (xs.take (k + 1)) ≤ sumOf sessSz xs) := sum_le sessSz xs (k + 1)
          clear c0 c1 c2 c3 c4 c5 c6 hc
          go_wp2_with fail
          refine (szSess_any xs[k] ve _ _ (by omega) (by omega) z1 z2 hel').mono ?_
          rintro e w2 ⟨rfl, hb2⟩
          have hb3 : Below w.heap.size w w2 := hb.trans (hb2.mono hb.size)
          by_cases hn : ((sessSz xs[k] : Nat) : Int) ≤ left - (xs.length : Int) - ((sumOf sessSz (xs.take k) : Nat) : Int)
          · rw [rest_yes hn]
            go_wp2_with fail
            go_roundw
            case rel => exact ⟨k + 1, by omega, by go_num, by rw [HS.out]; go_num, by have a := HS.out; omega, hb3⟩
            case measure => simp [intOf]; omega
          · rw [rest_no hn]
            go_wp2_with fail
            go_ret
            exact ⟨ret_int (by have a := HS.out; have b := HL.out; rw [rest_no]; rw [HR.out]; omega), hb3⟩
        · have HA : Hid (sumOf sessSz (xs.take k) = sumOf sessSz xs) := sum_all sessSz xs k (by omega)
          go_wp2
          go_ret
          exact ⟨ret_int (by have a := HA.out; rw [rest_yes] <;> rw [HR.out] <;> omega), hb⟩
    · have hneg : left - (xs.length : Int) < 0 := by omega
      go_enter Tryd.func9, Tryd.ntmps9
      go_wp2
      go_ret
      exact ⟨ret_int (by rw [rest_no]; rw [HR.out]; omega), Below.refl _ _⟩
end Go.Proofs.YtpmnepalchgcbaaDoor.Msg
