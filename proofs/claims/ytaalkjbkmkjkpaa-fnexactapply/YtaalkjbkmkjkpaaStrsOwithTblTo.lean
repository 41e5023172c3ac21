import Derived.Test.YtaalkjbkmkjkpaaChgPurewithMsgTo2
import Derived.Test.YtaalkjbkmkjkpaaMarkDatawithMarkStr
import Derived.Test.YtaalkjbkmkjkpaaTblSzwithMarkText
namespace Go.Proofs.Ytaalkjbkmkjkpaa.Msg
open Go.ChangeShapes Go.WideShapes Go.ChangeAt Go.RowKit
set_option linter.unusedVariables false
set_option linter.unusedSimpArgs false

/-! toStringS: what it makes is owned -/
theorem ostrs_of_row {W : World} {B : Nat} {xs : List ByteArray} (hl : xs.length ≤ 9223372036854775807) (hz : ∀ i (h : i < xs.length), xs[i].size ≤ 9223372036854775807) (h : W.rowIs B 9 xs.length (strsRow xs xs.length)) (hlt : B < W.heap.size) :
    OStrs W (.slice (some ⟨B, 0, none⟩) xs.length xs.length) xs [B] := by
  refine ⟨hl, .inr ⟨B, 0, xs.length, List.replicate xs.length [], rfl, hlt, ?_, by simp, ?_⟩⟩
  · have : (List.replicate xs.length ([] : List Nat)).flatten = [] := by simp
    rw [this]
  · intro i hi h2
    refine ⟨?_, ?_, hz i hi, by simp⟩
    · have := h.cell hi
      simp only [Nat.zero_add, Nat.mul_one]
      rw [this]
      simp [strsRow, hi]
    · simpa using h.frozen i

set_option maxHeartbeats 2000000 in
theorem toStrsO_any (xs : List ByteArray) (v : Value) (w : World) (hn : xs.length ≤ 1048576) {lo : Nat} (hv : StrsAt lo w v xs) :
    Calls Try.prog 24 #[v] w fun e w' => ∃ B, e = .returned (.slice (some ⟨B, 0, none⟩) xs.length xs.length) ∧ OStrs w' (.slice (some ⟨B, 0, none⟩) xs.length xs.length) xs [B] ∧ w.heap.size ≤ B ∧ Below w.heap.size w w' := by
  have hl := hv.1
  have hsz : ∀ i (h : i < xs.length), xs[i].size ≤ 9223372036854775807 := fun i h => by
    obtain ⟨a, cap, _, hc⟩ := hv.form
    obtain ⟨b, off, _, _, _, hr⟩ := hc i h
    exact hr.2
  obtain ⟨a, cap, rfl, hc⟩ := hv.form
  clear hv
  have HZ := hide hsz
  clear hsz
  have hmk := make_rows (P := Try.prog) 25 9 (.string ByteArray.empty) #[.string ByteArray.empty] 1 16 Try.underlying25 info_string rfl xs.length (by omega) (by omega)
  have hrow0 : (w.alloc (Obj.cells (madeCells #[Value.string ByteArray.empty] xs.length) 9)).rowIs w.heap.size 9 xs.length (strsRow xs 0) := by
    have := made_row w #[Value.string ByteArray.empty] xs.length 9 (by decide)
    refine this.congr ?_
    intro i _
    simp [strsRow, Nat.mod_one]
  go_enter Try.func24, Try.ntmps24
  go_wp2
  go_loopw [4] (fun i w1 => ∃ k : Nat, k ≤ xs.length ∧ i = .int .i64 k ∧ w1.rowIs w.heap.size 9 xs.length (strsRow xs k) ∧ Below w.heap.size w w1 ∧ w.heap.size < w1.heap.size) (fun i _ => xs.length - (intOf i).toNat)
  case atStart => exact ⟨0, Nat.zero_le _, rfl, hrow0, (Below.refl _ _).alloc (Nat.le_refl _) _, by simp⟩
  case round =>
    obtain ⟨k, hk, rfl, hrow, hb, hlt0⟩ := hrel
    by_cases hlt : k < xs.length
    · obtain ⟨b, off, rfl, _, hbl, hr⟩ := hc k hlt
      have h1 : wr.cell? ⟨b, off + k, none⟩ = some (.string xs[k]) := by rw [hb.cell (p := ⟨b, off + k, none⟩) hbl]; simpa using hr.1
      have h2 := hrow.cell hlt
      have h3 := hrow.frozen k
      clear hr hc
      go_wp2
      go_roundw
      case rel => exact ⟨k + 1, by omega, by go_num, (hrow.set k (.string xs[k])).congr fun j _ => strsRow_step xs k hlt j, hb.setCell (by simp) _, by rw [Deep.nblk_setCell]; exact hlt0⟩
      case measure => simp [intOf]; omega
    · obtain rfl : k = xs.length := by omega
      go_wp2
      go_ret
      exact ⟨_, rfl, ostrs_of_row hl HZ.out hrow hlt0, Nat.le_refl _, hb⟩
end Go.Proofs.Ytaalkjbkmkjkpaa.Msg

namespace Go.Proofs.Ytaalkjbkmkjkpaa.Msg
open Go.ChangeShapes Go.WideShapes Go.ChangeAt Go.RowKit
set_option linter.unusedVariables false
set_option linter.unusedSimpArgs false

set_option maxHeartbeats 400000 in
theorem szTbl_any (x : List Sess) (v : Value) (left : Int) (w : World) (h0 : 0 ≤ left) (h1 : left ≤ 1048576) {lo : Nat} (hv : SesssAt lo w v x) :
    Calls Try.prog 4 #[.agg #[v], .int .i64 left] w fun e w' => e = .returned (.int .i64 (rest left (tblSz x))) ∧ Below w.heap.size w w' := by
  have hb := (Below.refl w.heap.size w).alloc (Nat.le_refl _) (Obj.cells #[v] 24)
  have hv' : SesssAt lo (w.alloc (Obj.cells #[v] 24)) v x := At.kept kept_sess hv hb
  have hle := rest_le (n := tblSz x) h0
  have hge := rest_ge left (tblSz x)
  go_enter Try.func4, Try.ntmps4
  go_wp2_with fail
  refine (szSesss_any x v left _ h0 h1 hv').mono ?_
  rintro e w' ⟨rfl, hb'⟩
  have hb2 : Below w.heap.size w w' := hb.trans (hb'.mono (by simp))
  by_cases hn : rest left (tblSz x) < 0
  · go_wp2_with fail
    go_ret
    exact ⟨ret_int (by omega), hb2⟩
  · go_wp2_with fail
    go_ret
    exact ⟨rfl, hb2⟩

set_option maxHeartbeats 2000000 in
theorem toSess_any (x : Sess) (v : Value) (w : World) {lo : Nat} (hn : x.rows.length ≤ 1048576) (hv : StrsAt lo w v x.rows) :
    Calls Try.prog 42 #[sessV x v] w fun e w' => ∃ u, e = .returned (sessV x u) ∧ StrsAt w.heap.size w' u x.rows ∧ Below w.heap.size w w' := by
  obtain ⟨client, tag, query, page, state, rows, cursor⟩ := x
  simp only at hn hv
  obtain ⟨a, cap, hf, _⟩ := hv.form
  subst hf
  show Calls Try.prog 42 #[.agg #[.int .i64 client, .string tag, .string query, .int .i64 page, .int .i64 state, .slice a rows.length cap, .int .i64 cursor]] w _
  have HB0 := hide ((((Below.refl w.heap.size w).alloc (Nat.le_refl _) (Obj.cells #[.int .i64 client, .string tag, .string query, .int .i64 page, .int .i64 state, .slice a rows.length cap, .int .i64 cursor] 62)).alloc (by simp) (Obj.cells #[.int .i64 0, .string ⟨#[]⟩, .string ⟨#[]⟩, .int .i64 0, .int .i64 0, .slice none 0 0, .int .i64 0] 50)).alloc (by simp; omega) (Obj.cells #[.int .i64 client, .string tag, .string query, .int .i64 page, .int .i64 state, .slice none 0 0, .int .i64 0] 50))
  have HTO := hide (fun W hW => toStrs_any rows (.slice a rows.length cap) W hn (At.kept kept_str hv (w' := W) hW))
  clear hv
  go_enter Try.func42, Try.ntmps42
  go_wp2_with fail
  refine (HTO.out _ HB0.out).mono ?_
  rintro e w4 ⟨u, rfl, hu, hb⟩
  obtain ⟨hc, hf⟩ := bcells hb
  have hz : w.heap.size + 2 < w4.heap.size := by have := hb.size; simp at this; omega
  obtain ⟨a2, cap2, rfl, _⟩ := hu.form
  have HU := hide hu
  have HB := hide hb
  clear hu hb
  go_wp2_with fail
  refine bodyPost_ret (v := .agg #[.int .i64 client, .string tag, .string query, .int .i64 page, .int .i64 state, .slice a2 rows.length cap2, .int .i64 cursor]) (by simp [results, Try.results42, go_sem, hc, hz]) rfl ⟨.slice a2 rows.length cap2, rfl, ?_, ?_⟩
  · have hu2 : StrsAt (w.heap.size + 3) w4 (.slice a2 rows.length cap2) rows := by simpa using HU.out
    refine At.mono mono_str (At.same kept_str hu2 ?_) (by omega)
    repeat refine Same.setCell ?_ (by omega) _
    exact Same.refl _ _
  · have h0 := HB0.out.trans (HB.out.mono (by simp; omega))
    repeat refine Below.setCell ?_ (by simp; try omega) _
    exact h0

set_option maxHeartbeats 2000000 in
theorem eqSess_any (x : Sess) (v u : Value) (w : World) {lo lo2 : Nat} (hv : StrsAt lo w v x.rows) (hu : StrsAt lo2 w u x.rows) :
    Calls Try.prog 58 #[sessV x v, sessV x u] w fun e w' => e = .returned (.bool true) ∧ Below w.heap.size w w' := by
  obtain ⟨client, tag, query, page, state, rows, cursor⟩ := x
  simp only at hv hu
  obtain ⟨a, cap, hf, _⟩ := hv.form
  subst hf
  obtain ⟨a2, cap2, hf, _⟩ := hu.form
  subst hf
  show Calls Try.prog 58 #[.agg #[.int .i64 client, .string tag, .string query, .int .i64 page, .int .i64 state, .slice a rows.length cap, .int .i64 cursor], .agg #[.int .i64 client, .string tag, .string query, .int .i64 page, .int .i64 state, .slice a2 rows.length cap2, .int .i64 cursor]] w _
  have HB0 := hide (((Below.refl w.heap.size w).alloc (Nat.le_refl _) (Obj.cells #[.int .i64 client, .string tag, .string query, .int .i64 page, .int .i64 state, .slice a rows.length cap, .int .i64 cursor] 50)).alloc (by simp) (Obj.cells #[.int .i64 client, .string tag, .string query, .int .i64 page, .int .i64 state, .slice a2 rows.length cap2, .int .i64 cursor] 50))
  have HE := hide (fun W hW => eqStrs_any rows (.slice a rows.length cap) (.slice a2 rows.length cap2) W (At.kept kept_str hv (w' := W) hW) (At.kept kept_str hu (w' := W) hW))
  clear hv hu
  go_enter Try.func58, Try.ntmps58
  go_wp2_with fail
  refine (HE.out _ HB0.out).mono ?_
  rintro e w4 ⟨rfl, hb⟩
  obtain ⟨hc, hf⟩ := bcells hb
  have HB := hide hb
  clear hb
  go_wp2_with fail
  go_ret
  exact ⟨rfl, HB0.out.trans (HB.out.mono (by simp; omega))⟩

/-- the state of the loop that fills a row of new sessions, seven cells each -/
def SessFill (w : World) (t : TypeId) (xs : List Sess) (k : Nat) (w1 : World) : Prop :=
  (∃ f, w1.rowIs w.heap.size t (xs.length * 7) f ∧ ∀ j (h : j < xs.length), j < k → (f (j * 7) = .int .i64 xs[j].client ∧ f (j * 7 + 1) = .string xs[j].tag ∧ f (j * 7 + 2) = .string xs[j].query ∧ f (j * 7 + 3) = .int .i64 xs[j].page ∧ f (j * 7 + 4) = .int .i64 xs[j].state ∧ f (j * 7 + 6) = .int .i64 xs[j].cursor) ∧ StrsAt (w.heap.size + 1) w1 (f (j * 7 + 5)) xs[j].rows) ∧ Below w.heap.size w w1
theorem sessFill_step {w wr w2 : World} {t : TypeId} {xs : List Sess} {k : Nat} (h : SessFill w t xs k wr) (hb2 : Below wr.heap.size wr w2) (hk : k < xs.length) {u : Value} (hu : StrsAt wr.heap.size w2 u xs[k].rows) :
    SessFill w t xs (k + 1) (((((((w2.setCell ⟨w.heap.size, k * 7, none⟩ (.int .i64 xs[k].client)).setCell ⟨w.heap.size, k * 7 + 1, none⟩ (.string xs[k].tag)).setCell ⟨w.heap.size, k * 7 + 2, none⟩ (.string xs[k].query)).setCell ⟨w.heap.size, k * 7 + 3, none⟩ (.int .i64 xs[k].page)).setCell ⟨w.heap.size, k * 7 + 4, none⟩ (.int .i64 xs[k].state)).setCell ⟨w.heap.size, k * 7 + 5, none⟩ u).setCell ⟨w.heap.size, k * 7 + 6, none⟩ (.int .i64 xs[k].cursor)) := by
  obtain ⟨⟨f, hrow, hel⟩, hb⟩ := h
  have hlt := hrow.lt
  have hrow2 := hrow.of_block (hb2.block _ hlt)
  refine ⟨⟨_, (((((((hrow2.set (k * 7) (.int .i64 xs[k].client)).set (k * 7 + 1) (.string xs[k].tag)).set (k * 7 + 2) (.string xs[k].query)).set (k * 7 + 3) (.int .i64 xs[k].page)).set (k * 7 + 4) (.int .i64 xs[k].state)).set (k * 7 + 5) u).set (k * 7 + 6) (.int .i64 xs[k].cursor)), fun j hj hjk => ?_⟩, ((((((((hb.trans (hb2.mono hb.size)).setCell (by simp) _).setCell (by simp) _).setCell (by simp) _).setCell (by simp) _).setCell (by simp) _).setCell (by simp) _).setCell (by simp) _)⟩
  have hs : Same (w.heap.size + 1) w2 (((((((w2.setCell ⟨w.heap.size, k * 7, none⟩ (.int .i64 xs[k].client)).setCell ⟨w.heap.size, k * 7 + 1, none⟩ (.string xs[k].tag)).setCell ⟨w.heap.size, k * 7 + 2, none⟩ (.string xs[k].query)).setCell ⟨w.heap.size, k * 7 + 3, none⟩ (.int .i64 xs[k].page)).setCell ⟨w.heap.size, k * 7 + 4, none⟩ (.int .i64 xs[k].state)).setCell ⟨w.heap.size, k * 7 + 5, none⟩ u).setCell ⟨w.heap.size, k * 7 + 6, none⟩ (.int .i64 xs[k].cursor)) := ((((((((Same.refl _ _).setCell (by omega) _).setCell (by omega) _).setCell (by omega) _).setCell (by omega) _).setCell (by omega) _).setCell (by omega) _).setCell (by omega) _)
  by_cases e : j = k
  · subst e
    refine ⟨⟨by rw [if_neg (by omega), if_neg (by omega), if_neg (by omega), if_neg (by omega), if_neg (by omega), if_neg (by omega), if_pos rfl], by rw [if_neg (by omega), if_neg (by omega), if_neg (by omega), if_neg (by omega), if_neg (by omega), if_pos rfl], by rw [if_neg (by omega), if_neg (by omega), if_neg (by omega), if_neg (by omega), if_pos rfl], by rw [if_neg (by omega), if_neg (by omega), if_neg (by omega), if_pos rfl], by rw [if_neg (by omega), if_neg (by omega), if_pos rfl], by rw [if_pos rfl]⟩, ?_⟩
    rw [if_neg (by omega), if_pos rfl]
    exact At.same kept_str (At.mono mono_str hu (by omega)) hs
  · obtain ⟨⟨g0, g1, g2, g3, g4, g6⟩, g5⟩ := hel j hj (by omega)
    refine ⟨⟨by rw [if_neg (by omega), if_neg (by omega), if_neg (by omega), if_neg (by omega), if_neg (by omega), if_neg (by omega), if_neg (by omega)]; exact g0, by rw [if_neg (by omega), if_neg (by omega), if_neg (by omega), if_neg (by omega), if_neg (by omega), if_neg (by omega), if_neg (by omega)]; exact g1, by rw [if_neg (by omega), if_neg (by omega), if_neg (by omega), if_neg (by omega), if_neg (by omega), if_neg (by omega), if_neg (by omega)]; exact g2, by rw [if_neg (by omega), if_neg (by omega), if_neg (by omega), if_neg (by omega), if_neg (by omega), if_neg (by omega), if_neg (by omega)]; exact g3, by rw [if_neg (by omega), if_neg (by omega), if_neg (by omega), if_neg (by omega), if_neg (by omega), if_neg (by omega), if_neg (by omega)]; exact g4, by rw [if_neg (by omega), if_neg (by omega), if_neg (by omega), if_neg (by omega), if_neg (by omega), if_neg (by omega), if_neg (by omega)]; exact g6⟩, ?_⟩
    rw [if_neg (by omega), if_neg (by omega), if_neg (by omega), if_neg (by omega), if_neg (by omega), if_neg (by omega), if_neg (by omega)]
    exact At.same kept_str (At.same kept_str g5 (Same.of_below hb2)) hs
end Go.Proofs.Ytaalkjbkmkjkpaa.Msg
