import Derived.Test.YtpmnepalchgcbaaDoorMsgTowithMsgTo2withTblSz
import Derived.Deep.RegionHeld3
import Derived.Test.YtpmnepalchgcbaaDoorTblAtwithMarkTextwithMarkData
namespace Go.Proofs.YtpmnepalchgcbaaDoor.Msg
open Go.ChangeShapes Go.WideShapes Go.ChangeAt Go.RowKit
set_option linter.unusedVariables false
set_option linter.unusedSimpArgs false

set_option maxHeartbeats 400000 in
theorem szTbl_any (x : List Sess) (v : Value) (left : Int) (w : World) (h0 : 0 ≤ left) (h1 : left ≤ 1048576) {lo : Nat} (hv : SesssAt lo w v x) :
    Calls Tryd.prog 4 #[.agg #[v], .int .i64 left] w fun e w' => e = .returned (.int .i64 (rest left (tblSz x))) ∧ Below w.heap.size w w' := by
  have hb := (Below.refl w.heap.size w).alloc (Nat.le_refl _) (Obj.cells #[v] 24)
  have hv' : SesssAt lo (w.alloc (Obj.cells #[v] 24)) v x := At.kept kept_sess hv hb
  have hle := rest_le (n := tblSz x) h0
  have hge := rest_ge left (tblSz x)
  go_enter Tryd.func4, Tryd.ntmps4
  go_wp2_with fail
  refine (szSesss_any x v left _ h0 h1 hv').mono ?_
  rintro e w' ⟨rfl, hb'⟩
  have hb2 : Below w.heap.size w w' := hb.trans (hb'.mono (by simp))
  by_cases hn : rest left (tblSz x) < 0
  · go_wp2_with fail
    go_ret
    exact ⟨ret_int (by omega), hb2⟩
  · go_wp2_with fail
    go_ret
    exact ⟨rfl, hb2⟩

set_option maxHeartbeats 2000000 in
theorem toSess_any (x : Sess) (v : Value) (w : World) {lo : Nat} (hn : x.rows.length ≤ 1048576) (hv : StrsAt lo w v x.rows) :
    Calls Tryd.prog 26 #[sessV x v] w fun e w' => ∃ u, e = .returned (sessV x u) ∧ StrsAt w.heap.size w' u x.rows ∧ Below w.heap.size w w' := by
  obtain ⟨client, tag, query, page, state, rows, cursor⟩ := x
  simp only at hn hv
  obtain ⟨a, cap, hf, _⟩ := hv.form
  subst hf
  show Calls Tryd.prog 26 #[.agg #[.int .i64 client, .string tag, .string query, .int .i64 page, .int .i64 state, .slice a rows.length cap, .int .i64 cursor]] w _
  have HB0 := hide ((((Below.refl w.heap.size w).alloc (Nat.le_refl _) (Obj.cells #[.int .i64 client, .string tag, .string query, .int .i64 page, .int .i64 state, .slice a rows.length cap, .int .i64 cursor] 59)).alloc (by simp) (Obj.cells #[.int .i64 0, .string ⟨#[]⟩, .string ⟨#[]⟩, .int .i64 0, .int .i64 0, .slice none 0 0, .int .i64 0] 38)).alloc (by simp; omega) (Obj.cells #[.int .i64 client, .string tag, .string query, .int .i64 page, .int .i64 state, .slice none 0 0, .int .i64 0] 38))
  have HTO := hide (fun W hW => toStrs_any rows (.slice a rows.length cap) W hn (At.kept kept_str hv (w' := W) hW))
  clear hv
  go_enter Tryd.func26, Tryd.ntmps26
  go_wp2_with fail
  refine (HTO.out _ HB0.out).mono ?_
  rintro e w4 ⟨u, rfl, hu, hb⟩
  obtain ⟨hc, hf⟩ := bcells hb
  have hz : w.heap.size + 2 < w4.heap.size := by have := hb.size; simp at this; omega
  obtain ⟨a2, cap2, rfl, _⟩ := hu.form
  have HU := hide hu
  have HB := hide hb
  clear hu hb
  go_wp2_with fail
  refine bodyPost_ret (v := .agg #[.int .i64 client, .string tag, .string query, .int .i64 page, .int .i64 state, .slice a2 rows.length cap2, .int .i64 cursor]) (by simp [results, Tryd.results26, go_sem, hc, hz]) rfl ⟨.slice a2 rows.length cap2, rfl, ?_, ?_⟩
  · have hu2 : StrsAt (w.heap.size + 3) w4 (.slice a2 rows.length cap2) rows := by simpa using HU.out
    refine At.mono mono_str (At.same kept_str hu2 ?_) (by omega)
    repeat refine Same.setCell ?_ (by omega) _
    exact Same.refl _ _
  · have h0 := HB0.out.trans (HB.out.mono (by simp; omega))
    repeat refine Below.setCell ?_ (by simp; try omega) _
    exact h0

set_option maxHeartbeats 2000000 in
theorem eqSess_any (x : Sess) (v u : Value) (w : World) {lo lo2 : Nat} (hv : StrsAt lo w v x.rows) (hu : StrsAt lo2 w u x.rows) :
    Calls Tryd.prog 38 #[sessV x v, sessV x u] w fun e w' => e = .returned (.bool true) ∧ Below w.heap.size w w' := by
  obtain ⟨client, tag, query, page, state, rows, cursor⟩ := x
  simp only at hv hu
  obtain ⟨a, cap, hf, _⟩ := hv.form
  subst hf
  obtain ⟨a2, cap2, hf, _⟩ := hu.form
  subst hf
  show Calls Tryd.prog 38 #[.agg #[.int .i64 client, .string tag, .string query, .int .i64 page, .int .i64 state, .slice a rows.length cap, .int .i64 cursor], .agg #[.int .i64 client, .string tag, .string query, .int .i64 page, .int .i64 state, .slice a2 rows.length cap2, .int .i64 cursor]] w _
  have HB0 := hide (((Below.refl w.heap.size w).alloc (Nat.le_refl _) (Obj.cells #[.int .i64 client, .string tag, .string query, .int .i64 page, .int .i64 state, .slice a rows.length cap, .int .i64 cursor] 38)).alloc (by simp) (Obj.cells #[.int .i64 client, .string tag, .string query, .int .i64 page, .int .i64 state, .slice a2 rows.length cap2, .int .i64 cursor] 38))
  have HE := hide (fun W hW => eqStrs_any rows (.slice a rows.length cap) (.slice a2 rows.length cap2) W (At.kept kept_str hv (w' := W) hW) (At.kept kept_str hu (w' := W) hW))
  clear hv hu
  go_enter Tryd.func38, Tryd.ntmps38
  go_wp2_with fail
  refine (HE.out _ HB0.out).mono ?_
  rintro e w4 ⟨rfl, hb⟩
  obtain ⟨hc, hf⟩ := bcells hb
  have HB := hide hb
  clear hb
  go_wp2_with fail
  go_ret
  exact ⟨rfl, HB0.out.trans (HB.out.mono (by simp; omega))⟩

/-- the state of the loop that fills a row of new sessions, seven cells each -/
def SessFill (w : World) (t : TypeId) (xs : List Sess) (k : Nat) (w1 : World) : Prop :=
  (∃ f, w1.rowIs w.heap.size t (xs.length * 7) f ∧ ∀ j (h : j < xs.length), j < k → (f (j * 7) = .int .i64 xs[j].client ∧ f (j * 7 + 1) = .string xs[j].tag ∧ f (j * 7 + 2) = .string xs[j].query ∧ f (j * 7 + 3) = .int .i64 xs[j].page ∧ f (j * 7 + 4) = .int .i64 xs[j].state ∧ f (j * 7 + 6) = .int .i64 xs[j].cursor) ∧ StrsAt (w.heap.size + 1) w1 (f (j * 7 + 5)) xs[j].rows) ∧ Below w.heap.size w w1
theorem sessFill_step {w wr w2 : World} {t : TypeId} {xs : List Sess} {k : Nat} (h : SessFill w t xs k wr) (hb2 : Below wr.heap.size wr w2) (hk : k < xs.length) {u : Value} (hu : StrsAt wr.heap.size w2 u xs[k].rows) :
    SessFill w t xs (k + 1) (((((((w2.setCell ⟨w.heap.size, k * 7, none⟩ (.int .i64 xs[k].client)).setCell ⟨w.heap.size, k * 7 + 1, none⟩ (.string xs[k].tag)).setCell ⟨w.heap.size, k * 7 + 2, none⟩ (.string xs[k].query)).setCell ⟨w.heap.size, k * 7 + 3, none⟩ (.int .i64 xs[k].page)).setCell ⟨w.heap.size, k * 7 + 4, none⟩ (.int .i64 xs[k].state)).setCell ⟨w.heap.size, k * 7 + 5, none⟩ u).setCell ⟨w.heap.size, k * 7 + 6, none⟩ (.int .i64 xs[k].cursor)) := by
  obtain ⟨⟨f, hrow, hel⟩, hb⟩ := h
  have hlt := hrow.lt
  have hrow2 := hrow.of_block (hb2.block _ hlt)
  refine ⟨⟨_, (((((((hrow2.set (k * 7) (.int .i64 xs[k].client)).set (k * 7 + 1) (.string xs[k].tag)).set (k * 7 + 2) (.string xs[k].query)).set (k * 7 + 3) (.int .i64 xs[k].page)).set (k * 7 + 4) (.int .i64 xs[k].state)).set (k * 7 + 5) u).set (k * 7 + 6) (.int .i64 xs[k].cursor)), fun j hj hjk => ?_⟩, ((((((((hb.trans (hb2.mono hb.size)).setCell (by simp) _).setCell (by simp) _).setCell (by simp) _).setCell (by simp) _).setCell (by simp) _).setCell (by simp) _).setCell (by simp) _)⟩
  have hs : Same (w.heap.size + 1) w2 (((((((w2.setCell ⟨w.heap.size, k * 7, none⟩ (.int .i64 xs[k].client)).setCell ⟨w.heap.size, k * 7 + 1, none⟩ (.string xs[k].tag)).setCell ⟨w.heap.size, k * 7 + 2, none⟩ (.string xs[k].query)).setCell ⟨w.heap.size, k * 7 + 3, none⟩ (.int .i64 xs[k].page)).setCell ⟨w.heap.size, k * 7 + 4, none⟩ (.int .i64 xs[k].state)).setCell ⟨w.heap.size, k * 7 + 5, none⟩ u).setCell ⟨w.heap.size, k * 7 + 6, none⟩ (.int .i64 xs[k].cursor)) := ((((((((Same.refl _ _).setCell (by omega) _).setCell (by omega) _).setCell (by omega) _).setCell (by omega) _).setCell (by omega) _).setCell (by omega) _).setCell (by omega) _)
  by_cases e : j = k
  · subst e
    refine ⟨⟨by rw [if_neg (by omega), if_neg (by omega), if_neg (by omega), if_neg (by omega), if_neg (by omega), if_neg (by omega), if_pos rfl], by rw [if_neg (by omega), if_neg (by omega), if_neg (by omega), if_neg (by omega), if_neg (by omega), if_pos rfl], by rw [if_neg (by omega), if_neg (by omega), if_neg (by omega), if_neg (by omega), if_pos rfl], by rw [if_neg (by omega), if_neg (by omega), if_neg (by omega), if_pos rfl], by rw [if_neg (by omega), if_neg (by omega), if_pos rfl], by rw [if_pos rfl]⟩, ?_⟩
    rw [if_neg (by omega), if_pos rfl]
    exact At.same kept_str (At.mono mono_str hu (by omega)) hs
  · obtain ⟨⟨g0, g1, g2, g3, g4, g6⟩, g5⟩ := hel j hj (by omega)
    refine ⟨⟨by rw [if_neg (by omega), if_neg (by omega), if_neg (by omega), if_neg (by omega), if_neg (by omega), if_neg (by omega), if_neg (by omega)]; exact g0, by rw [if_neg (by omega), if_neg (by omega), if_neg (by omega), if_neg (by omega), if_neg (by omega), if_neg (by omega), if_neg (by omega)]; exact g1, by rw [if_neg (by omega), if_neg (by omega), if_neg (by omega), if_neg (by omega), if_neg (by omega), if_neg (by omega), if_neg (by omega)]; exact g2, by rw [if_neg (by omega), if_neg (by omega), if_neg (by omega), if_neg (by omega), if_neg (by omega), if_neg (by omega), if_neg (by omega)]; exact g3, by rw [if_neg (by omega), if_neg (by omega), if_neg (by omega), if_neg (by omega), if_neg (by omega), if_neg (by omega), if_neg (by omega)]; exact g4, by rw [if_neg (by omega), if_neg (by omega), if_neg (by omega), if_neg (by omega), if_neg (by omega), if_neg (by omega), if_neg (by omega)]; exact g6⟩, ?_⟩
    rw [if_neg (by omega), if_neg (by omega), if_neg (by omega), if_neg (by omega), if_neg (by omega), if_neg (by omega), if_neg (by omega)]
    exact At.same kept_str (At.same kept_str g5 (Same.of_below hb2)) hs
end Go.Proofs.YtpmnepalchgcbaaDoor.Msg

namespace Go.Proofs.YtpmnepalchgcbaaDoor.Msg
open Go.ChangeShapes Go.WideShapes Go.ChangeAt Go.RowKit
set_option linter.unusedVariables false
set_option linter.unusedSimpArgs false

theorem sesss_of_fill {w w1 : World} {t : TypeId} {xs : List Sess} {cap : Nat} (hl : xs.length ≤ 9223372036854775807) (hs : ∀ i (h : i < xs.length), xs[i].tag.size ≤ 9223372036854775807 ∧ xs[i].query.size ≤ 9223372036854775807) (h : SessFill w t xs xs.length w1) :
    SesssAt w.heap.size w1 (.slice (some ⟨w.heap.size, 0, none⟩) xs.length cap) xs := by
  obtain ⟨⟨f, hrow, hel⟩, hb⟩ := h
  refine ⟨hl, .inr ⟨_, 0, cap, rfl, ⟨Nat.le_refl _, hrow.lt⟩, fun i hi => ?_⟩⟩
  obtain ⟨⟨g0, g1, g2, g3, g4, g6⟩, g5⟩ := hel i hi hi
  have c0 := hrow.cell (i := i * 7) (by omega)
  have c1 := hrow.cell (i := i * 7 + 1) (by omega)
  have c2 := hrow.cell (i := i * 7 + 2) (by omega)
  have c3 := hrow.cell (i := i * 7 + 3) (by omega)
  have c4 := hrow.cell (i := i * 7 + 4) (by omega)
  have c5 := hrow.cell (i := i * 7 + 5) (by omega)
  have c6 := hrow.cell (i := i * 7 + 6) (by omega)
  rw [g0] at c0
  rw [g1] at c1
  rw [g2] at c2
  rw [g3] at c3
  rw [g4] at c4
  rw [g6] at c6
  exact ⟨by simpa using c0, by simpa using c1, by simpa using c2, by simpa using c3, by simpa using c4, by simpa using c6, (hs i hi).1, (hs i hi).2, _, by simpa using c5, At.mono mono_str g5 (by omega)⟩
theorem info_Sess : (Tryd.prog.info? 38).map (fun i => (i.zero, i.size, i.bytes)) = some (some (.agg #[.int .i64 0, .string ByteArray.empty, .string ByteArray.empty, .int .i64 0, .int .i64 0, .slice none 0 0, .int .i64 0]), 7, 88) := by kernel_rfl

set_option maxHeartbeats 1000000 in
theorem toSesss_any (xs : List Sess) (v : Value) (w : World) (hn : xs.length ≤ 1048576) (hn2 : ∀ i (h : i < xs.length), xs[i].rows.length ≤ 1048576) {lo : Nat} (hv : SesssAt lo w v xs) :
    Calls Tryd.prog 14 #[v] w fun e w' => ∃ u, e = .returned u ∧ SesssAt w.heap.size w' u xs ∧ Below w.heap.size w w' := by
  have hl := hv.1
  have HZ : Hid (∀ i (h : i < xs.length), xs[i].tag.size ≤ 9223372036854775807 ∧ xs[i].query.size ≤ 9223372036854775807) := fun i h => by
    obtain ⟨a, cap, _, hc⟩ := hv.form
    obtain ⟨b, off, _, _, _, hr⟩ := hc i h
    exact ⟨hr.2.2.2.2.2.2.1, hr.2.2.2.2.2.2.2.1⟩
  obtain ⟨a, cap, rfl, hc⟩ := hv.form
  clear hv
  have HN := hide hn2
  have hmk := make_rows (P := Tryd.prog) 27 38 (.agg #[.int .i64 0, .string ByteArray.empty, .string ByteArray.empty, .int .i64 0, .int .i64 0, .slice none 0 0, .int .i64 0]) #[.int .i64 0, .string ByteArray.empty, .string ByteArray.empty, .int .i64 0, .int .i64 0, .slice none 0 0, .int .i64 0] 7 88 Tryd.underlying27 info_Sess rfl xs.length (by omega) (by omega)
  have hrow0 : SessFill w 38 xs 0 (w.alloc (Obj.cells (madeCells #[.int .i64 0, .string ByteArray.empty, .string ByteArray.empty, .int .i64 0, .int .i64 0, .slice none 0 0, .int .i64 0] (xs.length * 7)) 38)) :=
    ⟨⟨_, made_row w #[.int .i64 0, .string ByteArray.empty, .string ByteArray.empty, .int .i64 0, .int .i64 0, .slice none 0 0, .int .i64 0] (xs.length * 7) 38 (by decide), fun j _ h => absurd h (by omega)⟩, (Below.refl _ _).alloc (Nat.le_refl _) _⟩
  clear hn2
  go_enter Tryd.func14, Tryd.ntmps14
  go_wp2
  go_loopw [4] (fun i w1 => ∃ k : Nat, k ≤ xs.length ∧ i = .int .i64 k ∧ SessFill w 38 xs k w1) (fun i _ => xs.length - (intOf i).toNat)
  case atStart => exact ⟨0, Nat.zero_le _, rfl, hrow0⟩
  case round =>
    obtain ⟨k, hk, rfl, hfil⟩ := hrel
    by_cases hlt : k < xs.length
    · obtain ⟨b, off, rfl, _, hbl, c0, c1, c2, c3, c4, c6, _, _, ve, c5, hel⟩ := hc k hlt
      have hb := hfil.2
      have d0 : wr.cell? ⟨b, off + k * 7, none⟩ = some (.int .i64 xs[k].client) := by rw [hb.cell (p := ⟨b, off + k * 7, none⟩) hbl]; exact c0
      have d1 : wr.cell? ⟨b, off + k * 7 + 1, none⟩ = some (.string xs[k].tag) := by rw [hb.cell (p := ⟨b, off + k * 7 + 1, none⟩) hbl]; exact c1
      have d2 : wr.cell? ⟨b, off + k * 7 + 2, none⟩ = some (.string xs[k].query) := by rw [hb.cell (p := ⟨b, off + k * 7 + 2, none⟩) hbl]; exact c2
      have d3 : wr.cell? ⟨b, off + k * 7 + 3, none⟩ = some (.int .i64 xs[k].page) := by rw [hb.cell (p := ⟨b, off + k * 7 + 3, none⟩) hbl]; exact c3
      have d4 : wr.cell? ⟨b, off + k * 7 + 4, none⟩ = some (.int .i64 xs[k].state) := by rw [hb.cell (p := ⟨b, off + k * 7 + 4, none⟩) hbl]; exact c4
      have d5 : wr.cell? ⟨b, off + k * 7 + 5, none⟩ = some (ve) := by rw [hb.cell (p := ⟨b, off + k * 7 + 5, none⟩) hbl]; exact c5
      have d6 : wr.cell? ⟨b, off + k * 7 + 6, none⟩ = some (.int .i64 xs[k].cursor) := by rw [hb.cell (p := ⟨b, off + k * 7 + 6, none⟩) hbl]; exact c6
      have hel' := At.kept kept_str hel hb
      clear hc c0 c1 c2 c3 c4 c5 c6
      obtain ⟨f, hrow, _⟩ := hfil.1
      have r0 := hrow.cell (i := k * 7) (by omega)
      have f0 := hrow.frozen (k * 7)
      have r1 := hrow.cell (i := k * 7 + 1) (by omega)
      have f1 := hrow.frozen (k * 7 + 1)
      have r2 := hrow.cell (i := k * 7 + 2) (by omega)
      have f2 := hrow.frozen (k * 7 + 2)
      have r3 := hrow.cell (i := k * 7 + 3) (by omega)
      have f3 := hrow.frozen (k * 7 + 3)
      have r4 := hrow.cell (i := k * 7 + 4) (by omega)
      have f4 := hrow.frozen (k * 7 + 4)
      have r5 := hrow.cell (i := k * 7 + 5) (by omega)
      have f5 := hrow.frozen (k * 7 + 5)
      have r6 := hrow.cell (i := k * 7 + 6) (by omega)
      have f6 := hrow.frozen (k * 7 + 6)
      have hB := hrow.lt
      have HFIL := hide hfil
      have HBB := hide hb
      clear hfil hb hrow hmk hrow0
      go_wp2_with fail
      refine (toSess_any xs[k] ve _ (HN.out k hlt) hel').mono ?_
      rintro e w2 ⟨u, rfl, hu, hb2⟩
      have h0 : w2.cell? ⟨w.heap.size, k * 7, none⟩ = some (f (k * 7)) := by rw [hb2.cell (p := ⟨w.heap.size, k * 7, none⟩) hB]; exact r0
      have e0 : w2.frozen? ⟨w.heap.size, k * 7, none⟩ = false := by rw [hb2.frozen (p := ⟨w.heap.size, k * 7, none⟩) hB]; exact f0
      have h1 : w2.cell? ⟨w.heap.size, k * 7 + 1, none⟩ = some (f (k * 7 + 1)) := by rw [hb2.cell (p := ⟨w.heap.size, k * 7 + 1, none⟩) hB]; exact r1
      have e1 : w2.frozen? ⟨w.heap.size, k * 7 + 1, none⟩ = false := by rw [hb2.frozen (p := ⟨w.heap.size, k * 7 + 1, none⟩) hB]; exact f1
      have h2 : w2.cell? ⟨w.heap.size, k * 7 + 2, none⟩ = some (f (k * 7 + 2)) := by rw [hb2.cell (p := ⟨w.heap.size, k * 7 + 2, none⟩) hB]; exact r2
      have e2 : w2.frozen? ⟨w.heap.size, k * 7 + 2, none⟩ = false := by rw [hb2.frozen (p := ⟨w.heap.size, k * 7 + 2, none⟩) hB]; exact f2
      have h3 : w2.cell? ⟨w.heap.size, k * 7 + 3, none⟩ = some (f (k * 7 + 3)) := by rw [hb2.cell (p := ⟨w.heap.size, k * 7 + 3, none⟩) hB]; exact r3
      have e3 : w2.frozen? ⟨w.heap.size, k * 7 + 3, none⟩ = false := by rw [hb2.frozen (p := ⟨w.heap.size, k * 7 + 3, none⟩) hB]; exact f3
      have h4 : w2.cell? ⟨w.heap.size, k * 7 + 4, none⟩ = some (f (k * 7 + 4)) := by rw [hb2.cell (p := ⟨w.heap.size, k * 7 + 4, none⟩) hB]; exact r4
      have e4 : w2.frozen? ⟨w.heap.size, k * 7 + 4, none⟩ = false := by rw [hb2.frozen (p := ⟨w.heap.size, k * 7 + 4, none⟩) hB]; exact f4
      have h5 : w2.cell? ⟨w.heap.size, k * 7 + 5, none⟩ = some (f (k * 7 + 5)) := by rw [hb2.cell (p := ⟨w.heap.size, k * 7 + 5, none⟩) hB]; exact r5
      have e5 : w2.frozen? ⟨w.heap.size, k * 7 + 5, none⟩ = false := by rw [hb2.frozen (p := ⟨w.heap.size, k * 7 + 5, none⟩) hB]; exact f5
      have h6 : w2.cell? ⟨w.heap.size, k * 7 + 6, none⟩ = some (f (k * 7 + 6)) := by rw [hb2.cell (p := ⟨w.heap.size, k * 7 + 6, none⟩) hB]; exact r6
      have e6 : w2.frozen? ⟨w.heap.size, k * 7 + 6, none⟩ = false := by rw [hb2.frozen (p := ⟨w.heap.size, k * 7 + 6, none⟩) hB]; exact f6
      obtain ⟨a2, cap2, rfl, _⟩ := hu.form
      have HFIN := hide (sessFill_step HFIL.out hb2 hlt hu)
      clear hu hb2 hel' d0 d1 d2 d3 d4 d5 d6 r0 r1 r2 r3 r4 r5 r6 f0 f1 f2 f3 f4 f5 f6
      unfold sessV
      go_wp2_with fail
      go_roundw
      case rel => exact ⟨k + 1, by omega, by go_num, HFIN.out⟩
      case measure => simp [intOf]; omega
    · obtain rfl : k = xs.length := by omega
      go_wp2
      go_ret
      exact ⟨_, rfl, sesss_of_fill hl HZ.out hfil, hfil.2⟩

set_option maxHeartbeats 400000 in
theorem toTbl_any (x : List Sess) (v : Value) (w : World) (hn : x.length ≤ 1048576) (hn2 : ∀ i (h : i < x.length), x[i].rows.length ≤ 1048576) {lo : Nat} (hv : SesssAt lo w v x) :
    Calls Tryd.prog 6 #[.agg #[v]] w fun e w' => ∃ u, e = .returned (.agg #[u]) ∧ SesssAt w.heap.size w' u x ∧ Below w.heap.size w w' := by
  have hb0 := (((Below.refl w.heap.size w).alloc (Nat.le_refl _) (Obj.cells #[v] 24)).alloc (by simp) (Obj.cells #[.slice none 0 0] 29)).alloc (by simp; omega) (Obj.cells #[.slice none 0 0] 29)
  have hv' := At.kept kept_sess hv hb0
  go_enter Tryd.func6, Tryd.ntmps6
  go_wp2_with fail
  refine (toSesss_any x v _ hn hn2 hv').mono ?_
  rintro e w4 ⟨u, rfl, hu, hb⟩
  obtain ⟨hc, hf⟩ := bcells hb
  have hz : w.heap.size + 2 < w4.heap.size := by have := hb.size; simp at this; omega
  obtain ⟨a, cap, rfl, _⟩ := hu.form
  go_wp2_with fail
  refine bodyPost_ret (v := .agg #[.slice a x.length cap]) (by simp [results, Tryd.results6, go_sem, hc, hz]) rfl ⟨_, rfl, ?_, ?_⟩
  · have hu2 : SesssAt (w.heap.size + 3) w4 (.slice a x.length cap) x := by simpa using hu
    exact At.mono mono_sess (At.same kept_sess hu2 (((Same.refl _ _).setCell (by omega) _).setCell (by omega) _)) (by omega)
  · exact ((hb0.trans (hb.mono (by simp; omega))).setCell (by simp; omega) _).setCell (by simp) _
end Go.Proofs.YtpmnepalchgcbaaDoor.Msg

namespace Go.Proofs.YtpmnepalchgcbaaDoor.Msg
open Go.ChangeShapes Go.WideShapes Go.ChangeAt Go.RowKit
set_option linter.unusedVariables false
set_option linter.unusedSimpArgs false

/-- the row of strings, the first j of them marked -/
def RowM (w : World) (b off k : Nat) (xs : List ByteArray) (j : Nat) : Prop :=
  ∀ i (h : i < xs.length), w.cell? ⟨b, off + i, none⟩ = some (.string (if i < j then markT (k + i) else xs[i])) ∧ w.frozen? ⟨b, off + i, none⟩ = false
theorem RowM.step {w w2 : World} {b off k : Nat} {xs : List ByteArray} {j : Nat} (h : RowM w b off k xs j) (hb : w2.heap[b]? = w.heap[b]?) (hj : j < xs.length) : RowM (w2.setCell ⟨b, off + j, none⟩ (.string (markT (k + j)))) b off k xs (j + 1) := by
  intro i hi
  obtain ⟨h1, h2⟩ := h i hi
  refine ⟨?_, ?_⟩
  · by_cases e : i = j
    · subst e
      rw [if_pos (by omega)]
      obtain ⟨v, hv⟩ : ∃ v, w2.cell? ⟨b, off + i, none⟩ = some v := ⟨_, by rw [cellSame hb]; exact h1⟩
      rw [World.cell?_setCell_same _ _ _ hv]
    · rw [World.cell?_setCell_other _ _ _ _ (by intro h; injection h with _ h2 _; omega), cellSame hb, h1]
      by_cases e2 : i < j
      · rw [if_pos e2, if_pos (by omega)]
      · rw [if_neg e2, if_neg (by omega)]
  · rw [World.frozen?_setCell, frozenSame hb]
    exact h2

theorem Only.setCell {bs : List Nat} {w w1 : World} (h : Only bs w w1) {b o : Nat} (hb : b ∈ bs) (v : Value) : Only bs w (w1.setCell ⟨b, o, none⟩ v) :=
  ⟨h.os, h.tape, h.output, by rw [Deep.nblk_setCell]; exact h.size, fun k h1 h2 => by rw [Deep.blk_setCell_other _ _ _ _ (fun e => h2 (by rw [e]; exact hb))]; exact h.block k h1 h2⟩

theorem flat_nil {bss : List (List Nat)} (h : ∀ i (h : i < bss.length), bss[i] = []) : bss.flatten = [] := by
  rw [List.flatten_eq_nil_iff]
  intro l hl
  obtain ⟨i, hi, rfl⟩ := List.getElem_of_mem hl
  exact h i hi

end Go.Proofs.YtpmnepalchgcbaaDoor.Msg
