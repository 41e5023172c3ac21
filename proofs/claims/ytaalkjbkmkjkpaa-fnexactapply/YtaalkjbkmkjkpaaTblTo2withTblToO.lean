import Derived.Test.YtaalkjbkmkjkpaaStrsOwithTblTo
import Derived.Deep.RegionHeld3
import Derived.Test.YtaalkjbkmkjkpaaMarkWantwithMarkTbl
namespace Go.Proofs.Ytaalkjbkmkjkpaa.Msg
open Go.ChangeShapes Go.WideShapes Go.ChangeAt Go.RowKit
set_option linter.unusedVariables false
set_option linter.unusedSimpArgs false

theorem sesss_of_fill {w w1 : World} {t : TypeId} {xs : List Sess} {cap : Nat} (hl : xs.length ≤ 9223372036854775807) (hs : ∀ i (h : i < xs.length), xs[i].tag.size ≤ 9223372036854775807 ∧ xs[i].query.size ≤ 9223372036854775807) (h : SessFill w t xs xs.length w1) :
    SesssAt w.heap.size w1 (.slice (some ⟨w.heap.size, 0, none⟩) xs.length cap) xs := by
  obtain ⟨⟨f, hrow, hel⟩, hb⟩ := h
  refine ⟨hl, .inr ⟨_, 0, cap, rfl, ⟨Nat.le_refl _, hrow.lt⟩, fun i hi => ?_⟩⟩
  obtain ⟨⟨g0, g1, g2, g3, g4, g6⟩, g5⟩ := hel i hi hi
  have c0 := hrow.cell (i := i * 7) (by omega)
  have c1 := hrow.cell (i := i * 7 + 1) (by omega)
  have c2 := hrow.cell (i := i * 7 + 2) (by omega)
  have c3 := hrow.cell (i := i * 7 + 3) (by omega)
  have c4 := hrow.cell (i := i * 7 + 4) (by omega)
  have c5 := hrow.cell (i := i * 7 + 5) (by omega)
  have c6 := hrow.cell (i := i * 7 + 6) (by omega)
  rw [g0] at c0
  rw [g1] at c1
  rw [g2] at c2
  rw [g3] at c3
  rw [g4] at c4
  rw [g6] at c6
  exact ⟨by simpa using c0, by simpa using c1, by simpa using c2, by simpa using c3, by simpa using c4, by simpa using c6, (hs i hi).1, (hs i hi).2, _, by simpa using c5, At.mono mono_str g5 (by omega)⟩
theorem info_Sess : (Try.prog.info? 50).map (fun i => (i.zero, i.size, i.bytes)) = some (some (.agg #[.int .i64 0, .string ByteArray.empty, .string ByteArray.empty, .int .i64 0, .int .i64 0, .slice none 0 0, .int .i64 0]), 7, 88) := by kernel_rfl

set_option maxHeartbeats 1000000 in
theorem toSesss_any (xs : List Sess) (v : Value) (w : World) (hn : xs.length ≤ 1048576) (hn2 : ∀ i (h : i < xs.length), xs[i].rows.length ≤ 1048576) {lo : Nat} (hv : SesssAt lo w v xs) :
    Calls Try.prog 23 #[v] w fun e w' => ∃ u, e = .returned u ∧ SesssAt w.heap.size w' u xs ∧ Below w.heap.size w w' := by
  have hl := hv.1
  have HZ : Hid (∀ i (h : i < xs.length), xs[i].tag.size ≤ 9223372036854775807 ∧ xs[i].query.size ≤ 9223372036854775807) := fun i h => by
    obtain ⟨a, cap, _, hc⟩ := hv.form
    obtain ⟨b, off, _, _, _, hr⟩ := hc i h
    exact ⟨hr.2.2.2.2.2.2.1, hr.2.2.2.2.2.2.2.1⟩
  obtain ⟨a, cap, rfl, hc⟩ := hv.form
  clear hv
  have HN := hide hn2
  have hmk := make_rows (P := Try.prog) 30 50 (.agg #[.int .i64 0, .string ByteArray.empty, .string ByteArray.empty, .int .i64 0, .int .i64 0, .slice none 0 0, .int .i64 0]) #[.int .i64 0, .string ByteArray.empty, .string ByteArray.empty, .int .i64 0, .int .i64 0, .slice none 0 0, .int .i64 0] 7 88 Try.underlying30 info_Sess rfl xs.length (by omega) (by omega)
  have hrow0 : SessFill w 50 xs 0 (w.alloc (Obj.cells (madeCells #[.int .i64 0, .string ByteArray.empty, .string ByteArray.empty, .int .i64 0, .int .i64 0, .slice none 0 0, .int .i64 0] (xs.length * 7)) 50)) :=
    ⟨⟨_, made_row w #[.int .i64 0, .string ByteArray.empty, .string ByteArray.empty, .int .i64 0, .int .i64 0, .slice none 0 0, .int .i64 0] (xs.length * 7) 50 (by decide), fun j _ h => absurd h (by omega)⟩, (Below.refl _ _).alloc (Nat.le_refl _) _⟩
  clear hn2
  go_enter Try.func23, Try.ntmps23
  go_wp2
  go_loopw [4] (fun i w1 => ∃ k : Nat, k ≤ xs.length ∧ i = .int .i64 k ∧ SessFill w 50 xs k w1) (fun i _ => xs.length - (intOf i).toNat)
  case atStart => exact ⟨0, Nat.zero_le _, rfl, hrow0⟩
  case round =>
    obtain ⟨k, hk, rfl, hfil⟩ := hrel
    by_cases hlt : k < xs.length
    · obtain ⟨b, off, rfl, _, hbl, c0, c1, c2, c3, c4, c6, _, _, ve, c5, hel⟩ := hc k hlt
      have hb := hfil.2
      have d0 : wr.cell? ⟨b, off + k * 7, none⟩ = some (.int .i64 xs[k].client) := by rw [hb.cell (p := ⟨b, off + k * 7, none⟩) hbl]; exact c0
      have d1 : wr.cell? ⟨b, off + k * 7 + 1, none⟩ = some (.string xs[k].tag) := by rw [hb.cell (p := ⟨b, off + k * 7 + 1, none⟩) hbl]; exact c1
      have d2 : wr.cell? ⟨b, off + k * 7 + 2, none⟩ = some (.string xs[k].query) := by rw [hb.cell (p := ⟨b, off + k * 7 + 2, none⟩) hbl]; exact c2
      have d3 : wr.cell? ⟨b, off + k * 7 + 3, none⟩ = some (.int .i64 xs[k].page) := by rw [hb.cell (p := ⟨b, off + k * 7 + 3, none⟩) hbl]; exact c3
      have d4 : wr.cell? ⟨b, off + k * 7 + 4, none⟩ = some (.int .i64 xs[k].state) := by rw [hb.cell (p := ⟨b, off + k * 7 + 4, none⟩) hbl]; exact c4
      have d5 : wr.cell? ⟨b, off + k * 7 + 5, none⟩ = some (ve) := by rw [hb.cell (p := ⟨b, off + k * 7 + 5, none⟩) hbl]; exact c5
      have d6 : wr.cell? ⟨b, off + k * 7 + 6, none⟩ = some (.int .i64 xs[k].cursor) := by rw [hb.cell (p := ⟨b, off + k * 7 + 6, none⟩) hbl]; exact c6
      have hel' := At.kept kept_str hel hb
      clear hc c0 c1 c2 c3 c4 c5 c6
      obtain ⟨f, hrow, _⟩ := hfil.1
      have r0 := hrow.cell (i := k * 7) (by omega)
      have f0 := hrow.frozen (k * 7)
      have r1 := hrow.cell (i := k * 7 + 1) (by omega)
      have f1 := hrow.frozen (k * 7 + 1)
      have r2 := hrow.cell (i := k * 7 + 2) (by omega)
      have f2 := hrow.frozen (k * 7 + 2)
      have r3 := hrow.cell (i := k * 7 + 3) (by omega)
      have f3 := hrow.frozen (k * 7 + 3)
      have r4 := hrow.cell (i := k * 7 + 4) (by omega)
      have f4 := hrow.frozen (k * 7 + 4)
      have r5 := hrow.cell (i := k * 7 + 5) (by omega)
      have f5 := hrow.frozen (k * 7 + 5)
      have r6 := hrow.cell (i := k * 7 + 6) (by omega)
      have f6 := hrow.frozen (k * 7 + 6)
      have hB := hrow.lt
      have HFIL := hide hfil
      have HBB := hide hb
      clear hfil hb hrow hmk hrow0
      go_wp2_with fail
      refine (toSess_any xs[k] ve _ (HN.out k hlt) hel').mono ?_
      rintro e w2 ⟨u, rfl, hu, hb2⟩
      have h0 : w2.cell? ⟨w.heap.size, k * 7, none⟩ = some (f (k * 7)) := by rw [hb2.cell (p := ⟨w.heap.size, k * 7, none⟩) hB]; exact r0
      have e0 : w2.frozen? ⟨w.heap.size, k * 7, none⟩ = false := by rw [hb2.frozen (p := ⟨w.heap.size, k * 7, none⟩) hB]; exact f0
      have h1 : w2.cell? ⟨w.heap.size, k * 7 + 1, none⟩ = some (f (k * 7 + 1)) := by rw [hb2.cell (p := ⟨w.heap.size, k * 7 + 1, none⟩) hB]; exact r1
      have e1 : w2.frozen? ⟨w.heap.size, k * 7 + 1, none⟩ = false := by rw [hb2.frozen (p := ⟨w.heap.size, k * 7 + 1, none⟩) hB]; exact f1
      have h2 : w2.cell? ⟨w.heap.size, k * 7 + 2, none⟩ = some (f (k * 7 + 2)) := by rw [hb2.cell (p := ⟨w.heap.size, k * 7 + 2, none⟩) hB]; exact r2
      have e2 : w2.frozen? ⟨w.heap.size, k * 7 + 2, none⟩ = false := by rw [hb2.frozen (p := ⟨w.heap.size, k * 7 + 2, none⟩) hB]; exact f2
      have h3 : w2.cell? ⟨w.heap.size, k * 7 + 3, none⟩ = some (f (k * 7 + 3)) := by rw [hb2.cell (p := ⟨w.heap.size, k * 7 + 3, none⟩) hB]; exact r3
      have e3 : w2.frozen? ⟨w.heap.size, k * 7 + 3, none⟩ = false := by rw [hb2.frozen (p := ⟨w.heap.size, k * 7 + 3, none⟩) hB]; exact f3
      have h4 : w2.cell? ⟨w.heap.size, k * 7 + 4, none⟩ = some (f (k * 7 + 4)) := by rw [hb2.cell (p := ⟨w.heap.size, k * 7 + 4, none⟩) hB]; exact r4
      have e4 : w2.frozen? ⟨w.heap.size, k * 7 + 4, none⟩ = false := by rw [hb2.frozen (p := ⟨w.heap.size, k * 7 + 4, none⟩) hB]; exact f4
      have h5 : w2.cell? ⟨w.heap.size, k * 7 + 5, none⟩ = some (f (k * 7 + 5)) := by rw [hb2.cell (p := ⟨w.heap.size, k * 7 + 5, none⟩) hB]; exact r5
      have e5 : w2.frozen? ⟨w.heap.size, k * 7 + 5, none⟩ = false := by rw [hb2.frozen (p := ⟨w.heap.size, k * 7 + 5, none⟩) hB]; exact f5
      have h6 : w2.cell? ⟨w.heap.size, k * 7 + 6, none⟩ = some (f (k * 7 + 6)) := by rw [hb2.cell (p := ⟨w.heap.size, k * 7 + 6, none⟩) hB]; exact r6
      have e6 : w2.frozen? ⟨w.heap.size, k * 7 + 6, none⟩ = false := by rw [hb2.frozen (p := ⟨w.heap.size, k * 7 + 6, none⟩) hB]; exact f6
      obtain ⟨a2, cap2, rfl, _⟩ := hu.form
      have HFIN := hide (sessFill_step HFIL.out hb2 hlt hu)
      clear hu hb2 hel' d0 d1 d2 d3 d4 d5 d6 r0 r1 r2 r3 r4 r5 r6 f0 f1 f2 f3 f4 f5 f6
      unfold sessV
      go_wp2_with fail
      go_roundw
      case rel => exact ⟨k + 1, by omega, by go_num, HFIN.out⟩
      case measure => simp [intOf]; omega
    · obtain rfl : k = xs.length := by omega
      go_wp2
      go_ret
      exact ⟨_, rfl, sesss_of_fill hl HZ.out hfil, hfil.2⟩

set_option maxHeartbeats 400000 in
theorem toTbl_any (x : List Sess) (v : Value) (w : World) (hn : x.length ≤ 1048576) (hn2 : ∀ i (h : i < x.length), x[i].rows.length ≤ 1048576) {lo : Nat} (hv : SesssAt lo w v x) :
    Calls Try.prog 7 #[.agg #[v]] w fun e w' => ∃ u, e = .returned (.agg #[u]) ∧ SesssAt w.heap.size w' u x ∧ Below w.heap.size w w' := by
  have hb0 := (((Below.refl w.heap.size w).alloc (Nat.le_refl _) (Obj.cells #[v] 24)).alloc (by simp) (Obj.cells #[.slice none 0 0] 32)).alloc (by simp; omega) (Obj.cells #[.slice none 0 0] 32)
  have hv' := At.kept kept_sess hv hb0
  go_enter Try.func7, Try.ntmps7
  go_wp2_with fail
  refine (toSesss_any x v _ hn hn2 hv').mono ?_
  rintro e w4 ⟨u, rfl, hu, hb⟩
  obtain ⟨hc, hf⟩ := bcells hb
  have hz : w.heap.size + 2 < w4.heap.size := by have := hb.size; simp at this; omega
  obtain ⟨a, cap, rfl, _⟩ := hu.form
  go_wp2_with fail
  refine bodyPost_ret (v := .agg #[.slice a x.length cap]) (by simp [results, Try.results7, go_sem, hc, hz]) rfl ⟨_, rfl, ?_, ?_⟩
  · have hu2 : SesssAt (w.heap.size + 3) w4 (.slice a x.length cap) x := by simpa using hu
    exact At.mono mono_sess (At.same kept_sess hu2 (((Same.refl _ _).setCell (by omega) _).setCell (by omega) _)) (by omega)
  · exact ((hb0.trans (hb.mono (by simp; omega))).setCell (by simp; omega) _).setCell (by simp) _
end Go.Proofs.Ytaalkjbkmkjkpaa.Msg

namespace Go.Proofs.Ytaalkjbkmkjkpaa.Msg
open Go.ChangeShapes Go.WideShapes Go.ChangeAt Go.RowKit
set_option linter.unusedVariables false
set_option linter.unusedSimpArgs false

/-! toTable: what it makes is owned -/
set_option maxHeartbeats 2000000 in
theorem toSessO (x : Sess) (v : Value) (w : World) {lo : Nat} (hn : x.rows.length ≤ 1048576) (hv : StrsAt lo w v x.rows) :
    Calls Try.prog 42 #[sessV x v] w fun e w' => ∃ B, e = .returned (sessV x (.slice (some ⟨B, 0, none⟩) x.rows.length x.rows.length)) ∧ OStrs w' (.slice (some ⟨B, 0, none⟩) x.rows.length x.rows.length) x.rows [B] ∧ w.heap.size ≤ B ∧ Below w.heap.size w w' := by
  obtain ⟨client, tag, query, page, state, rows, cursor⟩ := x
  simp only at hn hv
  obtain ⟨a, cap, hf, _⟩ := hv.form
  subst hf
  show Calls Try.prog 42 #[.agg #[.int .i64 client, .string tag, .string query, .int .i64 page, .int .i64 state, .slice a rows.length cap, .int .i64 cursor]] w _
  have HB0 := hide ((((Below.refl w.heap.size w).alloc (Nat.le_refl _) (Obj.cells #[.int .i64 client, .string tag, .string query, .int .i64 page, .int .i64 state, .slice a rows.length cap, .int .i64 cursor] 62)).alloc (by simp) (Obj.cells #[.int .i64 0, .string ⟨#[]⟩, .string ⟨#[]⟩, .int .i64 0, .int .i64 0, .slice none 0 0, .int .i64 0] 50)).alloc (by simp; omega) (Obj.cells #[.int .i64 client, .string tag, .string query, .int .i64 page, .int .i64 state, .slice none 0 0, .int .i64 0] 50))
  have HTO := hide (fun W hW => toStrsO_any rows (.slice a rows.length cap) W hn (At.kept kept_str hv (w' := W) hW))
  clear hv
  go_enter Try.func42, Try.ntmps42
  go_wp2_with fail
  refine (HTO.out _ HB0.out).mono ?_
  rintro e w4 ⟨B, rfl, hu, hB, hb⟩
  obtain ⟨hc, hf⟩ := bcells hb
  have hz : w.heap.size + 2 < w4.heap.size := by have := hb.size; simp at this; omega
  have hB3 : w.heap.size + 3 ≤ B := by simp at hB; omega
  have HU := hide hu
  have HB := hide hb
  have HB3 := hide hB3
  clear hu hb hB hB3
  go_wp2_with fail
  refine bodyPost_ret (v := .agg #[.int .i64 client, .string tag, .string query, .int .i64 page, .int .i64 state, .slice (some ⟨B, 0, none⟩) rows.length rows.length, .int .i64 cursor]) (by simp [results, Try.results42, go_sem, hc, hz]) rfl ⟨B, rfl, ?_, by have := HB3.out; omega, ?_⟩
  · refine OAt.kept keptO_str HU.out (by simp only [Deep.nblk_setCell]; exact Nat.le_refl _) fun d hd => ?_
    rw [List.mem_singleton.1 hd]
    have := HB3.out
    repeat (refine (Deep.blk_setCell_other _ _ _ _ (by dsimp only; omega)).trans ?_)
    rfl
  · have h0 := HB0.out.trans (HB.out.mono (by simp; omega))
    repeat refine Below.setCell ?_ (by simp; try omega) _
    exact h0

/-- the state of the loop that fills a row of new sessions -/
structure OSF (w : World) (t : TypeId) (xs : List Sess) (k : Nat) (w1 : World) (f : Nat → Value) (bs : List Nat) : Prop where
  row : w1.rowIs w.heap.size t (xs.length * 7) f
  len : bs.length = k
  nd : bs.Nodup
  rng : ∀ b ∈ bs, w.heap.size + 1 ≤ b ∧ b < w1.heap.size
  el : ∀ j (h : j < xs.length) (h2 : j < bs.length), (∀ q, q < 7 → f (j * 7 + q) = sC xs[j] (f (j * 7 + 5)) q) ∧ OStrs w1 (f (j * 7 + 5)) xs[j].rows [bs[j]]
  bel : Below w.heap.size w w1
theorem OSF.step {w wr w2 : World} {t : TypeId} {xs : List Sess} {k : Nat} {f : Nat → Value} {bs : List Nat} (h : OSF w t xs k wr f bs) (hb2 : Below wr.heap.size wr w2) (hk : k < xs.length) {u : Value} {B : Nat} (hu : OStrs w2 u xs[k].rows [B]) (hge : wr.heap.size ≤ B) :
    ∃ g, OSF w t xs (k + 1) (((((((w2.setCell ⟨w.heap.size, k * 7, none⟩ (.int .i64 xs[k].client)).setCell ⟨w.heap.size, k * 7 + 1, none⟩ (.string xs[k].tag)).setCell ⟨w.heap.size, k * 7 + 2, none⟩ (.string xs[k].query)).setCell ⟨w.heap.size, k * 7 + 3, none⟩ (.int .i64 xs[k].page)).setCell ⟨w.heap.size, k * 7 + 4, none⟩ (.int .i64 xs[k].state)).setCell ⟨w.heap.size, k * 7 + 5, none⟩ u).setCell ⟨w.heap.size, k * 7 + 6, none⟩ (.int .i64 xs[k].cursor)) g (bs ++ [B]) := by
  have hlt0 := h.row.lt
  have hs2 := hb2.size
  have hrow2 := h.row.of_block (hb2.block _ hlt0)
  have hlt := OAt.lt ltO_str hu B (by simp)
  have hl := h.len
  refine ⟨_, (((((((hrow2.set (k * 7) (.int .i64 xs[k].client)).set (k * 7 + 1) (.string xs[k].tag)).set (k * 7 + 2) (.string xs[k].query)).set (k * 7 + 3) (.int .i64 xs[k].page)).set (k * 7 + 4) (.int .i64 xs[k].state)).set (k * 7 + 5) u).set (k * 7 + 6) (.int .i64 xs[k].cursor)), by simp [h.len], ?_, fun b hb => ?_, fun j hj h2 => ?_, ((((((((h.bel.trans (hb2.mono h.bel.size)).setCell (by simp) _).setCell (by simp) _).setCell (by simp) _).setCell (by simp) _).setCell (by simp) _).setCell (by simp) _).setCell (by simp) _)⟩
  · rw [List.nodup_append]
    exact ⟨h.nd, by simp, fun a ha c hc e => by have := (h.rng a ha).2; rw [List.mem_singleton.1 hc] at e; omega⟩
  · simp only [Deep.nblk_setCell]
    rcases List.mem_append.1 hb with hb | hb
    · have := h.rng b hb; omega
    · rw [List.mem_singleton.1 hb]; omega
  · have key : ∀ d, w.heap.size + 1 ≤ d → (((((((w2.setCell ⟨w.heap.size, k * 7, none⟩ (.int .i64 xs[k].client)).setCell ⟨w.heap.size, k * 7 + 1, none⟩ (.string xs[k].tag)).setCell ⟨w.heap.size, k * 7 + 2, none⟩ (.string xs[k].query)).setCell ⟨w.heap.size, k * 7 + 3, none⟩ (.int .i64 xs[k].page)).setCell ⟨w.heap.size, k * 7 + 4, none⟩ (.int .i64 xs[k].state)).setCell ⟨w.heap.size, k * 7 + 5, none⟩ u).setCell ⟨w.heap.size, k * 7 + 6, none⟩ (.int .i64 xs[k].cursor)).heap[d]? = w2.heap[d]? := fun d hd => by
      iterate 7 (refine (Deep.blk_setCell_other _ _ _ _ (by dsimp only; omega)).trans ?_)
      rfl
    have hsz : w2.heap.size ≤ (((((((w2.setCell ⟨w.heap.size, k * 7, none⟩ (.int .i64 xs[k].client)).setCell ⟨w.heap.size, k * 7 + 1, none⟩ (.string xs[k].tag)).setCell ⟨w.heap.size, k * 7 + 2, none⟩ (.string xs[k].query)).setCell ⟨w.heap.size, k * 7 + 3, none⟩ (.int .i64 xs[k].page)).setCell ⟨w.heap.size, k * 7 + 4, none⟩ (.int .i64 xs[k].state)).setCell ⟨w.heap.size, k * 7 + 5, none⟩ u).setCell ⟨w.heap.size, k * 7 + 6, none⟩ (.int .i64 xs[k].cursor)).heap.size := by simp only [Deep.nblk_setCell]; exact Nat.le_refl _
    by_cases hjk : j < bs.length
    · have e : (bs ++ [B])[j] = bs[j] := List.getElem_append_left hjk
      obtain ⟨q1, q2⟩ := h.el j hj hjk
      rw [e]
      have e5 : ∀ q, q < 7 → (if j * 7 + q = k * 7 + 6 then Value.int .i64 xs[k].cursor else if j * 7 + q = k * 7 + 5 then u else if j * 7 + q = k * 7 + 4 then .int .i64 xs[k].state else if j * 7 + q = k * 7 + 3 then .int .i64 xs[k].page else if j * 7 + q = k * 7 + 2 then .string xs[k].query else if j * 7 + q = k * 7 + 1 then .string xs[k].tag else if j * 7 + q = k * 7 then .int .i64 xs[k].client else f (j * 7 + q)) = f (j * 7 + q) := fun q hq => by
        rw [if_neg (by omega), if_neg (by omega), if_neg (by omega), if_neg (by omega), if_neg (by omega), if_neg (by omega), if_neg (by omega)]
      refine ⟨fun q hq => ?_, ?_⟩
      · rw [e5 q hq, e5 5 (by omega)]
        exact q1 q hq
      · rw [e5 5 (by omega)]
        refine OAt.kept keptO_str q2 (Nat.le_trans hs2 hsz) fun d hd => ?_
        have hd' := h.rng d (by rw [List.mem_singleton.1 hd]; exact List.getElem_mem hjk)
        rw [key d hd'.1]
        exact hb2.block d hd'.2
    · have hj2 : j = k := by simp at h2; omega
      subst hj2
      have e : (bs ++ [B])[j] = B := by rw [List.getElem_append_right (by omega)]; simp [hl]
      rw [e]
      have e5 : (if j * 7 + 5 = j * 7 + 6 then Value.int .i64 xs[j].cursor else if j * 7 + 5 = j * 7 + 5 then u else if j * 7 + 5 = j * 7 + 4 then .int .i64 xs[j].state else if j * 7 + 5 = j * 7 + 3 then .int .i64 xs[j].page else if j * 7 + 5 = j * 7 + 2 then .string xs[j].query else if j * 7 + 5 = j * 7 + 1 then .string xs[j].tag else if j * 7 + 5 = j * 7 then .int .i64 xs[j].client else f (j * 7 + 5)) = u := by
        rw [if_neg (by omega), if_pos rfl]
      refine ⟨fun q hq => ?_, ?_⟩
      · rw [e5]
        obtain rfl | rfl | rfl | rfl | rfl | rfl | rfl : q = 0 ∨ q = 1 ∨ q = 2 ∨ q = 3 ∨ q = 4 ∨ q = 5 ∨ q = 6 := by omega
        · rw [if_neg (by omega), if_neg (by omega), if_neg (by omega), if_neg (by omega), if_neg (by omega), if_neg (by omega), if_pos (by omega)]; rfl
        · rw [if_neg (by omega), if_neg (by omega), if_neg (by omega), if_neg (by omega), if_neg (by omega), if_pos rfl]; rfl
        · rw [if_neg (by omega), if_neg (by omega), if_neg (by omega), if_neg (by omega), if_pos rfl]; rfl
        · rw [if_neg (by omega), if_neg (by omega), if_neg (by omega), if_pos rfl]; rfl
        · rw [if_neg (by omega), if_neg (by omega), if_pos rfl]; rfl
        · rw [if_neg (by omega), if_pos rfl]; rfl
        · rw [if_pos rfl]; rfl
      · rw [e5]
        exact OAt.kept keptO_str hu hsz fun d hd => key d (by rw [List.mem_singleton.1 hd]; have := h.bel.size; omega)
theorem flat_single (bs : List Nat) : (bs.map fun b => [b]).flatten = bs := by
  induction bs with
  | nil => rfl
  | cons b t ih => rw [List.map_cons, List.flatten_cons, ih]; rfl
theorem sesssO_of {w w1 : World} {t : TypeId} {xs : List Sess} {cap : Nat} {f : Nat → Value} {bs : List Nat} (hl : xs.length ≤ 9223372036854775807) (hs : ∀ i (h : i < xs.length), xs[i].tag.size ≤ 9223372036854775807 ∧ xs[i].query.size ≤ 9223372036854775807) (h : OSF w t xs xs.length w1 f bs) :
    OSesss w1 (.slice (some ⟨w.heap.size, 0, none⟩) xs.length cap) xs (w.heap.size :: bs) ∧ (w.heap.size :: bs).Nodup ∧ ∀ b ∈ w.heap.size :: bs, w.heap.size ≤ b := by
  refine ⟨⟨hl, .inr ⟨_, 0, cap, bs.map fun b => [b], rfl, h.row.lt, by rw [flat_single], by rw [List.length_map]; exact h.len, fun i hi h2 => ?_⟩⟩, ?_, fun b hb => ?_⟩
  · have h3 : i < bs.length := by rw [List.length_map] at h2; exact h2
    obtain ⟨q1, q2⟩ := h.el i hi h3
    rw [List.getElem_map]
    refine ⟨f (i * 7 + 5), fun q hq => ⟨?_, ?_⟩, (hs i hi).1, (hs i hi).2, q2⟩
    · rw [← q1 q hq, Nat.zero_add]
      exact h.row.cell (by omega)
    · rw [Nat.zero_add]
      exact h.row.frozen _
  · rw [List.nodup_cons]
    exact ⟨fun hm => by have := (h.rng _ hm).1; omega, h.nd⟩
  · rw [List.mem_cons] at hb
    rcases hb with rfl | hb
    · exact Nat.le_refl _
    · have := (h.rng b hb).1; omega
/-- what toTable makes: in blocks of its own -/
def OTbl (w : World) (xs : List Sess) (u : Value) (w' : World) : Prop := ∃ bs, OSesss w' u xs bs ∧ bs.Nodup ∧ (∀ b ∈ bs, w.heap.size ≤ b) ∧ Below w.heap.size w w'
set_option maxHeartbeats 2000000 in
theorem toSesssO (xs : List Sess) (v : Value) (w : World) (hn : xs.length ≤ 1048576) (hn2 : ∀ i (h : i < xs.length), xs[i].rows.length ≤ 1048576) {lo : Nat} (hv : SesssAt lo w v xs) :
    Calls Try.prog 23 #[v] w fun e w' => ∃ B, e = .returned (.slice (some ⟨B, 0, none⟩) xs.length xs.length) ∧ OTbl w xs (.slice (some ⟨B, 0, none⟩) xs.length xs.length) w' := by
  have hl := hv.1
  have HZ : Hid (∀ i (h : i < xs.length), xs[i].tag.size ≤ 9223372036854775807 ∧ xs[i].query.size ≤ 9223372036854775807) := fun i h => by
    obtain ⟨a, cap, _, hc⟩ := hv.form
    obtain ⟨b, off, _, _, _, hr⟩ := hc i h
    exact ⟨hr.2.2.2.2.2.2.1, hr.2.2.2.2.2.2.2.1⟩
  obtain ⟨a, cap, rfl, hc⟩ := hv.form
  clear hv
  have HN := hide hn2
  have hmk := make_rows (P := Try.prog) 30 50 (.agg #[.int .i64 0, .string ByteArray.empty, .string ByteArray.empty, .int .i64 0, .int .i64 0, .slice none 0 0, .int .i64 0]) #[.int .i64 0, .string ByteArray.empty, .string ByteArray.empty, .int .i64 0, .int .i64 0, .slice none 0 0, .int .i64 0] 7 88 Try.underlying30 info_Sess rfl xs.length (by omega) (by omega)
  have hrow0 : OSF w 50 xs 0 (w.alloc (Obj.cells (madeCells #[.int .i64 0, .string ByteArray.empty, .string ByteArray.empty, .int .i64 0, .int .i64 0, .slice none 0 0, .int .i64 0] (xs.length * 7)) 50)) _ [] :=
    ⟨made_row w #[.int .i64 0, .string ByteArray.empty, .string ByteArray.empty, .int .i64 0, .int .i64 0, .slice none 0 0, .int .i64 0] (xs.length * 7) 50 (by decide), rfl, by simp, fun _ h => absurd h (by simp), fun j _ h => absurd h (by simp), (Below.refl _ _).alloc (Nat.le_refl _) _⟩
  clear hn2
  go_enter Try.func23, Try.ntmps23
  go_wp2
  go_loopw [4] (fun i w1 => ∃ k : Nat, k ≤ xs.length ∧ i = .int .i64 k ∧ ∃ f bs, OSF w 50 xs k w1 f bs) (fun i _ => xs.length - (intOf i).toNat)
  case atStart => exact ⟨0, Nat.zero_le _, rfl, _, _, hrow0⟩
  case round =>
    obtain ⟨k, hk, rfl, f, bs, hfil⟩ := hrel
    by_cases hlt : k < xs.length
    · obtain ⟨b, off, rfl, _, hbl, c0, c1, c2, c3, c4, c6, _, _, ve, c5, hel⟩ := hc k hlt
      have hb := hfil.bel
      have d0 : wr.cell? ⟨b, off + k * 7, none⟩ = some (.int .i64 xs[k].client) := by rw [hb.cell (p := ⟨b, off + k * 7, none⟩) hbl]; exact c0
      have d1 : wr.cell? ⟨b, off + k * 7 + 1, none⟩ = some (.string xs[k].tag) := by rw [hb.cell (p := ⟨b, off + k * 7 + 1, none⟩) hbl]; exact c1
      have d2 : wr.cell? ⟨b, off + k * 7 + 2, none⟩ = some (.string xs[k].query) := by rw [hb.cell (p := ⟨b, off + k * 7 + 2, none⟩) hbl]; exact c2
      have d3 : wr.cell? ⟨b, off + k * 7 + 3, none⟩ = some (.int .i64 xs[k].page) := by rw [hb.cell (p := ⟨b, off + k * 7 + 3, none⟩) hbl]; exact c3
      have d4 : wr.cell? ⟨b, off + k * 7 + 4, none⟩ = some (.int .i64 xs[k].state) := by rw [hb.cell (p := ⟨b, off + k * 7 + 4, none⟩) hbl]; exact c4
      have d5 : wr.cell? ⟨b, off + k * 7 + 5, none⟩ = some (ve) := by rw [hb.cell (p := ⟨b, off + k * 7 + 5, none⟩) hbl]; exact c5
      have d6 : wr.cell? ⟨b, off + k * 7 + 6, none⟩ = some (.int .i64 xs[k].cursor) := by rw [hb.cell (p := ⟨b, off + k * 7 + 6, none⟩) hbl]; exact c6
      have hel' := At.kept kept_str hel hb
      clear hc c0 c1 c2 c3 c4 c5 c6
      have hrow := hfil.row
      have r0 := hrow.cell (i := k * 7) (by omega)
      have f0 := hrow.frozen (k * 7)
      have r1 := hrow.cell (i := k * 7 + 1) (by omega)
      have f1 := hrow.frozen (k * 7 + 1)
      have r2 := hrow.cell (i := k * 7 + 2) (by omega)
      have f2 := hrow.frozen (k * 7 + 2)
      have r3 := hrow.cell (i := k * 7 + 3) (by omega)
      have f3 := hrow.frozen (k * 7 + 3)
      have r4 := hrow.cell (i := k * 7 + 4) (by omega)
      have f4 := hrow.frozen (k * 7 + 4)
      have r5 := hrow.cell (i := k * 7 + 5) (by omega)
      have f5 := hrow.frozen (k * 7 + 5)
      have r6 := hrow.cell (i := k * 7 + 6) (by omega)
      have f6 := hrow.frozen (k * 7 + 6)
      have hB := hrow.lt
      have HFIL := hide hfil
      have HBB := hide hb
      clear hfil hb hrow hmk hrow0
      go_wp2_with fail
      refine (toSessO xs[k] ve _ (HN.out k hlt) hel').mono ?_
      rintro e w2 ⟨B, rfl, hu, hBg, hb2⟩
      have h0 : w2.cell? ⟨w.heap.size, k * 7, none⟩ = some (f (k * 7)) := by rw [hb2.cell (p := ⟨w.heap.size, k * 7, none⟩) hB]; exact r0
      have e0 : w2.frozen? ⟨w.heap.size, k * 7, none⟩ = false := by rw [hb2.frozen (p := ⟨w.heap.size, k * 7, none⟩) hB]; exact f0
      have h1 : w2.cell? ⟨w.heap.size, k * 7 + 1, none⟩ = some (f (k * 7 + 1)) := by rw [hb2.cell (p := ⟨w.heap.size, k * 7 + 1, none⟩) hB]; exact r1
      have e1 : w2.frozen? ⟨w.heap.size, k * 7 + 1, none⟩ = false := by rw [hb2.frozen (p := ⟨w.heap.size, k * 7 + 1, none⟩) hB]; exact f1
      have h2 : w2.cell? ⟨w.heap.size, k * 7 + 2, none⟩ = some (f (k * 7 + 2)) := by rw [hb2.cell (p := ⟨w.heap.size, k * 7 + 2, none⟩) hB]; exact r2
      have e2 : w2.frozen? ⟨w.heap.size, k * 7 + 2, none⟩ = false := by rw [hb2.frozen (p := ⟨w.heap.size, k * 7 + 2, none⟩) hB]; exact f2
      have h3 : w2.cell? ⟨w.heap.size, k * 7 + 3, none⟩ = some (f (k * 7 + 3)) := by rw [hb2.cell (p := ⟨w.heap.size, k * 7 + 3, none⟩) hB]; exact r3
      have e3 : w2.frozen? ⟨w.heap.size, k * 7 + 3, none⟩ = false := by rw [hb2.frozen (p := ⟨w.heap.size, k * 7 + 3, none⟩) hB]; exact f3
      have h4 : w2.cell? ⟨w.heap.size, k * 7 + 4, none⟩ = some (f (k * 7 + 4)) := by rw [hb2.cell (p := ⟨w.heap.size, k * 7 + 4, none⟩) hB]; exact r4
      have e4 : w2.frozen? ⟨w.heap.size, k * 7 + 4, none⟩ = false := by rw [hb2.frozen (p := ⟨w.heap.size, k * 7 + 4, none⟩) hB]; exact f4
      have h5 : w2.cell? ⟨w.heap.size, k * 7 + 5, none⟩ = some (f (k * 7 + 5)) := by rw [hb2.cell (p := ⟨w.heap.size, k * 7 + 5, none⟩) hB]; exact r5
      have e5 : w2.frozen? ⟨w.heap.size, k * 7 + 5, none⟩ = false := by rw [hb2.frozen (p := ⟨w.heap.size, k * 7 + 5, none⟩) hB]; exact f5
      have h6 : w2.cell? ⟨w.heap.size, k * 7 + 6, none⟩ = some (f (k * 7 + 6)) := by rw [hb2.cell (p := ⟨w.heap.size, k * 7 + 6, none⟩) hB]; exact r6
      have e6 : w2.frozen? ⟨w.heap.size, k * 7 + 6, none⟩ = false := by rw [hb2.frozen (p := ⟨w.heap.size, k * 7 + 6, none⟩) hB]; exact f6
      have HFIN := hide (HFIL.out.step hb2 hlt hu hBg)
      clear hu hBg hb2 hel' d0 d1 d2 d3 d4 d5 d6 r0 r1 r2 r3 r4 r5 r6 f0 f1 f2 f3 f4 f5 f6
      unfold sessV
      go_wp2_with fail
      go_roundw
      case rel => exact ⟨k + 1, by omega, by go_num, HFIN.out.elim fun g h => ⟨g, _, h⟩⟩
      case measure => simp [intOf]; omega
    · obtain rfl : k = xs.length := by omega
      go_wp2
      go_ret
      obtain ⟨h1, h2, h3⟩ := sesssO_of (cap := xs.length) hl HZ.out hfil
      exact ⟨_, rfl, _, h1, h2, h3, hfil.bel⟩

set_option maxHeartbeats 400000 in
theorem toTblO (x : List Sess) (v : Value) (w : World) (hn : x.length ≤ 1048576) (hn2 : ∀ i (h : i < x.length), x[i].rows.length ≤ 1048576) {lo : Nat} (hv : SesssAt lo w v x) :
    Calls Try.prog 7 #[.agg #[v]] w fun e w' => ∃ B, e = .returned (.agg #[.slice (some ⟨B, 0, none⟩) x.length x.length]) ∧ OTbl w x (.slice (some ⟨B, 0, none⟩) x.length x.length) w' := by
  have hb0 := (((Below.refl w.heap.size w).alloc (Nat.le_refl _) (Obj.cells #[v] 24)).alloc (by simp) (Obj.cells #[.slice none 0 0] 32)).alloc (by simp; omega) (Obj.cells #[.slice none 0 0] 32)
  have hv' := At.kept kept_sess hv hb0
  go_enter Try.func7, Try.ntmps7
  go_wp2_with fail
  refine (toSesssO x v _ hn hn2 hv').mono ?_
  rintro e w4 ⟨B, rfl, bs, hu, hnd, hge, hb⟩
  obtain ⟨hc, hf⟩ := bcells hb
  have hz : w.heap.size + 2 < w4.heap.size := by have := hb.size; simp at this; omega
  have hge2 : ∀ b ∈ bs, w.heap.size + 3 ≤ b := fun b h => by have := hge b h; simp at this; omega
  have HU := hide hu
  have HND := hide hnd
  have HGE := hide hge2
  have HB := hide hb
  have HB0 := hide hb0
  clear hu hnd hge hge2 hb hb0 hv' hv
  go_wp2_with fail
  refine bodyPost_ret (v := .agg #[.slice (some ⟨B, 0, none⟩) x.length x.length]) (by simp [results, Try.results7, go_sem, hc, hz]) rfl ⟨_, rfl, bs, ?_, HND.out, fun b h => by have := HGE.out b h; omega, ?_⟩
  · refine OAt.kept keptO_sess HU.out (by simp only [Deep.nblk_setCell]; exact Nat.le_refl _) fun d hd => ?_
    have := HGE.out d hd
    iterate 2 (refine (Deep.blk_setCell_other _ _ _ _ (by dsimp only; omega)).trans ?_)
    rfl
  · exact ((HB0.out.trans (HB.out.mono (by simp; omega))).setCell (by simp; omega) _).setCell (by simp) _
end Go.Proofs.Ytaalkjbkmkjkpaa.Msg
