import Derived.Test.YtpmnepalchgcbaaGreatDoorTblSzwithMarkTextwithMarkData
import Derived.Test.YtpmnepalchgcbaaGreatDoorMsgTo2withChgLawwithMsgSz3
import Derived.Deep.RegionHeld3
import Derived.Test.YtpmnepalchgcbaaGreatDoorMarkWantwithMarkTblwithStrsO
namespace Go.Proofs.YtpmnepalchgcbaaGreatDoor.Msg
open Go.ChangeShapes Go.WideShapes Go.ChangeAt Go.RowKit
set_option linter.unusedVariables false
set_option linter.unusedSimpArgs false

set_option maxHeartbeats 2000000 in
theorem eqSess_any (x : Sess) (v u : Value) (w : World) {lo lo2 : Nat} (hv : StrsAt lo w v x.rows) (hu : StrsAt lo2 w u x.rows) :
    Calls Tryz.prog 47 #[sessV x v, sessV x u] w fun e w' => e = .returned (.bool true) ∧ Below w.heap.size w w' := by
  obtain ⟨client, tag, query, page, state, rows, cursor⟩ := x
  simp only at hv hu
  obtain ⟨a, cap, hf, _⟩ := hv.form
  subst hf
  obtain ⟨a2, cap2, hf, _⟩ := hu.form
  subst hf
  show Calls Tryz.prog 47 #[.agg #[.int .i64 client, .string tag, .string query, .int .i64 page, .int .i64 state, .slice a rows.length cap, .int .i64 cursor], .agg #[.int .i64 client, .string tag, .string query, .int .i64 page, .int .i64 state, .slice a2 rows.length cap2, .int .i64 cursor]] w _
  have HB0 := hide (((Below.refl w.heap.size w).alloc (Nat.le_refl _) (Obj.cells #[.int .i64 client, .string tag, .string query, .int .i64 page, .int .i64 state, .slice a rows.length cap, .int .i64 cursor] 51)).alloc (by simp) (Obj.cells #[.int .i64 client, .string tag, .string query, .int .i64 page, .int .i64 state, .slice a2 rows.length cap2, .int .i64 cursor] 51))
  have HE := hide (fun W hW => eqStrs_any rows (.slice a rows.length cap) (.slice a2 rows.length cap2) W (At.kept kept_str hv (w' := W) hW) (At.kept kept_str hu (w' := W) hW))
  clear hv hu
  go_enter Tryz.func47, Tryz.ntmps47
  go_wp2_with fail
  refine (HE.out _ HB0.out).mono ?_
  rintro e w4 ⟨rfl, hb⟩
  obtain ⟨hc, hf⟩ := bcells hb
  have HB := hide hb
  clear hb
  go_wp2_with fail
  go_ret
  exact ⟨rfl, HB0.out.trans (HB.out.mono (by simp; omega))⟩

/-- the state of the loop that fills a row of new sessions, seven cells each -/
def SessFill (w : World) (t : TypeId) (xs : List Sess) (k : Nat) (w1 : World) : Prop :=
  (∃ f, w1.rowIs w.heap.size t (xs.length * 7) f ∧ ∀ j (h : j < xs.length), j < k → (f (j * 7) = .int .i64 xs[j].client ∧ f (j * 7 + 1) = .string xs[j].tag ∧ f (j * 7 + 2) = .string xs[j].query ∧ f (j * 7 + 3) = .int .i64 xs[j].page ∧ f (j * 7 + 4) = .int .i64 xs[j].state ∧ f (j * 7 + 6) = .int .i64 xs[j].cursor) ∧ StrsAt (w.heap.size + 1) w1 (f (j * 7 + 5)) xs[j].rows) ∧ Below w.heap.size w w1
theorem sessFill_step {w wr w2 : World} {t : TypeId} {xs : List Sess} {k : Nat} (h : SessFill w t xs k wr) (hb2 : Below wr.heap.size wr w2) (hk : k < xs.length) {u : Value} (hu : StrsAt wr.heap.size w2 u xs[k].rows) :
    SessFill w t xs (k + 1) (((((((w2.setCell ⟨w.heap.size, k * 7, none⟩ (.int .i64 xs[k].client)).setCell ⟨w.heap.size, k * 7 + 1, none⟩ (.string xs[k].tag)).setCell ⟨w.heap.size, k * 7 + 2, none⟩ (.string xs[k].query)).setCell ⟨w.heap.size, k * 7 + 3, none⟩ (.int .i64 xs[k].page)).setCell ⟨w.heap.size, k * 7 + 4, none⟩ (.int .i64 xs[k].state)).setCell ⟨w.heap.size, k * 7 + 5, none⟩ u).setCell ⟨w.heap.size, k * 7 + 6, none⟩ (.int .i64 xs[k].cursor)) := by
  obtain ⟨⟨f, hrow, hel⟩, hb⟩ := h
  have hlt := hrow.lt
  have hrow2 := hrow.of_block (hb2.block _ hlt)
  refine ⟨⟨_, (((((((hrow2.set (k * 7) (.int .i64 xs[k].client)).set (k * 7 + 1) (.string xs[k].tag)).set (k * 7 + 2) (.string xs[k].query)).set (k * 7 + 3) (.int .i64 xs[k].page)).set (k * 7 + 4) (.int .i64 xs[k].state)).set (k * 7 + 5) u).set (k * 7 + 6) (.int .i64 xs[k].cursor)), fun j hj hjk => ?_⟩, ((((((((hb.trans (hb2.mono hb.size)).setCell (by simp) _).setCell (by simp) _).setCell (by simp) _).setCell (by simp) _).setCell (by simp) _).setCell (by simp) _).setCell (by simp) _)⟩
  have hs : Same (w.heap.size + 1) w2 (((((((w2.setCell ⟨w.heap.size, k * 7, none⟩ (.int .i64 xs[k].client)).setCell ⟨w.heap.size, k * 7 + 1, none⟩ (.string xs[k].tag)).setCell ⟨w.heap.size, k * 7 + 2, none⟩ (.string xs[k].query)).setCell ⟨w.heap.size, k * 7 + 3, none⟩ (.int .i64 xs[k].page)).setCell ⟨w.heap.size, k * 7 + 4, none⟩ (.int .i64 xs[k].state)).setCell ⟨w.heap.size, k * 7 + 5, none⟩ u).setCell ⟨w.heap.size, k * 7 + 6, none⟩ (.int .i64 xs[k].cursor)) := ((((((((Same.refl _ _).setCell (by omega) _).setCell (by omega) _).setCell (by omega) _).setCell (by omega) _).setCell (by omega) _).setCell (by omega) _).setCell (by omega) _)
  by_cases e : j = k
  · subst e
    refine ⟨⟨by rw [if_neg (by omega), if_neg (by omega), if_neg (by omega), if_neg (by omega), if_neg (by omega), if_neg (by omega), if_pos rfl], by rw [if_neg (by omega), if_neg (by omega), if_neg (by omega), if_neg (by omega), if_neg (by omega), if_pos rfl], by rw [if_neg (by omega), if_neg (by omega), if_neg (by omega), if_neg (by omega), if_pos rfl], by rw [if_neg (by omega), if_neg (by omega), if_neg (by omega), if_pos rfl], by rw [if_neg (by omega), if_neg (by omega), if_pos rfl], by rw [if_pos rfl]⟩, ?_⟩
    rw [if_neg (by omega), if_pos rfl]
    exact At.same kept_str (At.mono mono_str hu (by omega)) hs
  · obtain ⟨⟨g0, g1, g2, g3, g4, g6⟩, g5⟩ := hel j hj (by omega)
    refine ⟨⟨by rw [if_neg (by omega), if_neg (by omega), if_neg (by omega), if_neg (by omega), if_neg (by omega), if_neg (by omega), if_neg (by omega)]; exact g0, by rw [if_neg (by omega), if_neg (by omega), if_neg (by omega), if_neg (by omega), if_neg (by omega), if_neg (by omega), if_neg (by omega)]; exact g1, by rw [if_neg (by omega), if_neg (by omega), if_neg (by omega), if_neg (by omega), if_neg (by omega), if_neg (by omega), if_neg (by omega)]; exact g2, by rw [if_neg (by omega), if_neg (by omega), if_neg (by omega), if_neg (by omega), if_neg (by omega), if_neg (by omega), if_neg (by omega)]; exact g3, by rw [if_neg (by omega), if_neg (by omega), if_neg (by omega), if_neg (by omega), if_neg (by omega), if_neg (by omega), if_neg (by omega)]; exact g4, by rw [if_neg (by omega), if_neg (by omega), if_neg (by omega), if_neg (by omega), if_neg (by omega), if_neg (by omega), if_neg (by omega)]; exact g6⟩, ?_⟩
    rw [if_neg (by omega), if_neg (by omega), if_neg (by omega), if_neg (by omega), if_neg (by omega), if_neg (by omega), if_neg (by omega)]
    exact At.same kept_str (At.same kept_str g5 (Same.of_below hb2)) hs
end Go.Proofs.YtpmnepalchgcbaaGreatDoor.Msg

namespace Go.Proofs.YtpmnepalchgcbaaGreatDoor.Msg
open Go.ChangeShapes Go.WideShapes Go.ChangeAt Go.RowKit
set_option linter.unusedVariables false
set_option linter.unusedSimpArgs false

theorem sesss_of_fill {w w1 : World} {t : TypeId} {xs : List Sess} {cap : Nat} (hl : xs.length ≤ 9223372036854775807) (hs : ∀ i (h : i < xs.length), xs[i].tag.size ≤ 9223372036854775807 ∧ xs[i].query.size ≤ 9223372036854775807) (h : SessFill w t xs xs.length w1) :
    SesssAt w.heap.size w1 (.slice (some ⟨w.heap.size, 0, none⟩) xs.length cap) xs := by
  obtain ⟨⟨f, hrow, hel⟩, hb⟩ := h
  refine ⟨hl, .inr ⟨_, 0, cap, rfl, ⟨Nat.le_refl _, hrow.lt⟩, fun i hi => ?_⟩⟩
  obtain ⟨⟨g0, g1, g2, g3, g4, g6⟩, g5⟩ := hel i hi hi
  have c0 := hrow.cell (i := i * 7) (by omega)
  have c1 := hrow.cell (i := i * 7 + 1) (by omega)
  have c2 := hrow.cell (i := i * 7 + 2) (by omega)
  have c3 := hrow.cell (i := i * 7 + 3) (by omega)
  have c4 := hrow.cell (i := i * 7 + 4) (by omega)
  have c5 := hrow.cell (i := i * 7 + 5) (by omega)
  have c6 := hrow.cell (i := i * 7 + 6) (by omega)
  rw [g0] at c0
  rw [g1] at c1
  rw [g2] at c2
  rw [g3] at c3
  rw [g4] at c4
  rw [g6] at c6
  exact ⟨by simpa using c0, by simpa using c1, by simpa using c2, by simpa using c3, by simpa using c4, by simpa using c6, (hs i hi).1, (hs i hi).2, _, by simpa using c5, At.mono mono_str g5 (by omega)⟩
theorem info_Sess : (Tryz.prog.info? 51).map (fun i => (i.zero, i.size, i.bytes)) = some (some (.agg #[.int .i64 0, .string ByteArray.empty, .string ByteArray.empty, .int .i64 0, .int .i64 0, .slice none 0 0, .int .i64 0]), 7, 88) := by kernel_rfl

end Go.Proofs.YtpmnepalchgcbaaGreatDoor.Msg

namespace Go.Proofs.YtpmnepalchgcbaaGreatDoor.Msg
open Go.ChangeShapes Go.WideShapes Go.ChangeAt Go.RowKit
set_option linter.unusedVariables false
set_option linter.unusedSimpArgs false

/-- the state of the loop that fills a row of new sessions -/
structure OSF (w : World) (t : TypeId) (xs : List Sess) (k : Nat) (w1 : World) (f : Nat → Value) (bs : List Nat) : Prop where
  row : w1.rowIs w.heap.size t (xs.length * 7) f
  len : bs.length = k
  nd : bs.Nodup
  rng : ∀ b ∈ bs, w.heap.size + 1 ≤ b ∧ b < w1.heap.size
  el : ∀ j (h : j < xs.length) (h2 : j < bs.length), (∀ q, q < 7 → f (j * 7 + q) = sC xs[j] (f (j * 7 + 5)) q) ∧ OStrs w1 (f (j * 7 + 5)) xs[j].rows [bs[j]]
  bel : Below w.heap.size w w1
theorem OSF.step {w wr w2 : World} {t : TypeId} {xs : List Sess} {k : Nat} {f : Nat → Value} {bs : List Nat} (h : OSF w t xs k wr f bs) (hb2 : Below wr.heap.size wr w2) (hk : k < xs.length) {u : Value} {B : Nat} (hu : OStrs w2 u xs[k].rows [B]) (hge : wr.heap.size ≤ B) :
    ∃ g, OSF w t xs (k + 1) (((((((w2.setCell ⟨w.heap.size, k * 7, none⟩ (.int .i64 xs[k].client)).setCell ⟨w.heap.size, k * 7 + 1, none⟩ (.string xs[k].tag)).setCell ⟨w.heap.size, k * 7 + 2, none⟩ (.string xs[k].query)).setCell ⟨w.heap.size, k * 7 + 3, none⟩ (.int .i64 xs[k].page)).setCell ⟨w.heap.size, k * 7 + 4, none⟩ (.int .i64 xs[k].state)).setCell ⟨w.heap.size, k * 7 + 5, none⟩ u).setCell ⟨w.heap.size, k * 7 + 6, none⟩ (.int .i64 xs[k].cursor)) g (bs ++ [B]) := by
  have hlt0 := h.row.lt
  have hs2 := hb2.size
  have hrow2 := h.row.of_block (hb2.block _ hlt0)
  have hlt := OAt.lt ltO_str hu B (by simp)
  have hl := h.len
  refine ⟨_, (((((((hrow2.set (k * 7) (.int .i64 xs[k].client)).set (k * 7 + 1) (.string xs[k].tag)).set (k * 7 + 2) (.string xs[k].query)).set (k * 7 + 3) (.int .i64 xs[k].page)).set (k * 7 + 4) (.int .i64 xs[k].state)).set (k * 7 + 5) u).set (k * 7 + 6) (.int .i64 xs[k].cursor)), by simp [h.len], ?_, fun b hb => ?_, fun j hj h2 => ?_, ((((((((h.bel.trans (hb2.mono h.bel.size)).setCell (by simp) _).setCell (by simp) _).setCell (by simp) _).setCell (by simp) _).setCell (by simp) _).setCell (by simp) _).setCell (by simp) _)⟩
  · rw [List.nodup_append]
    exact ⟨h.nd, by simp, fun a ha c hc e => by have := (h.rng a ha).2; rw [List.mem_singleton.1 hc] at e; omega⟩
  · simp only [Deep.nblk_setCell]
    rcases List.mem_append.1 hb with hb | hb
    · have := h.rng b hb; omega
    · rw [List.mem_singleton.1 hb]; omega
  · have key : ∀ d, w.heap.size + 1 ≤ d → (((((((w2.setCell ⟨w.heap.size, k * 7, none⟩ (.int .i64 xs[k].client)).setCell ⟨w.heap.size, k * 7 + 1, none⟩ (.string xs[k].tag)).setCell ⟨w.heap.size, k * 7 + 2, none⟩ (.string xs[k].query)).setCell ⟨w.heap.size, k * 7 + 3, none⟩ (.int .i64 xs[k].page)).setCell ⟨w.heap.size, k * 7 + 4, none⟩ (.int .i64 xs[k].state)).setCell ⟨w.heap.size, k * 7 + 5, none⟩ u).setCell ⟨w.heap.size, k * 7 + 6, none⟩ (.int .i64 xs[k].cursor)).heap[d]? = w2.heap[d]? := fun d hd => by
      iterate 7 (refine (Deep.blk_setCell_other _ _ _ _ (by dsimp only; omega)).trans ?_)
      rfl
    have hsz : w2.heap.size ≤ (((((((w2.setCell ⟨w.heap.size, k * 7, none⟩ (.int .i64 xs[k].client)).setCell ⟨w.heap.size, k * 7 + 1, none⟩ (.string xs[k].tag)).setCell ⟨w.heap.size, k * 7 + 2, none⟩ (.string xs[k].query)).setCell ⟨w.heap.size, k * 7 + 3, none⟩ (.int .i64 xs[k].page)).setCell ⟨w.heap.size, k * 7 + 4, none⟩ (.int .i64 xs[k].state)).setCell ⟨w.heap.size, k * 7 + 5, none⟩ u).setCell ⟨w.heap.size, k * 7 + 6, none⟩ (.int .i64 xs[k].cursor)).heap.size := by simp only [Deep.nblk_setCell]; exact Nat.le_refl _
    by_cases hjk : j < bs.length
    · have e : (bs ++ [B])[j] = bs[j] := List.getElem_append_left hjk
      obtain ⟨q1, q2⟩ := h.el j hj hjk
      rw [e]
      have e5 : ∀ q, q < 7 → (if j * 7 + q = k * 7 + 6 then Value.int .i64 xs[k].cursor else if j * 7 + q = k * 7 + 5 then u else if j * 7 + q = k * 7 + 4 then .int .i64 xs[k].state else if j * 7 + q = k * 7 + 3 then .int .i64 xs[k].page else if j * 7 + q = k * 7 + 2 then .string xs[k].query else if j * 7 + q = k * 7 + 1 then .string xs[k].tag else if j * 7 + q = k * 7 then .int .i64 xs[k].client else f (j * 7 + q)) = f (j * 7 + q) := fun q hq => by
        rw [if_neg (by omega), if_neg (by omega), if_neg (by omega), if_neg (by omega), if_neg (by omega), if_neg (by omega), if_neg (by omega)]
      refine ⟨fun q hq => ?_, ?_⟩
      · rw [e5 q hq, e5 5 (by omega)]
        exact q1 q hq
      · rw [e5 5 (by omega)]
        refine OAt.kept keptO_str q2 (Nat.le_trans hs2 hsz) fun d hd => ?_
        have hd' := h.rng d (by rw [List.mem_singleton.1 hd]; exact List.getElem_mem hjk)
        rw [key d hd'.1]
        exact hb2.block d hd'.2
    · have hj2 : j = k := by simp at h2; omega
      subst hj2
      have e : (bs ++ [B])[j] = B := by rw [List.getElem_append_right (by omega)]; simp [hl]
      rw [e]
      have e5 : (if j * 7 + 5 = j * 7 + 6 then Value.int .i64 xs[j].cursor else if j * 7 + 5 = j * 7 + 5 then u else if j * 7 + 5 = j * 7 + 4 then .int .i64 xs[j].state else if j * 7 + 5 = j * 7 + 3 then .int .i64 xs[j].page else if j * 7 + 5 = j * 7 + 2 then .string xs[j].query else if j * 7 + 5 = j * 7 + 1 then .string xs[j].tag else if j * 7 + 5 = j * 7 then .int .i64 xs[j].client else f (j * 7 + 5)) = u := by
        rw [if_neg (by omega), if_pos rfl]
      refine ⟨fun q hq => ?_, ?_⟩
      · rw [e5]
        obtain rfl | rfl | rfl | rfl | rfl | rfl | rfl : q = 0 ∨ q = 1 ∨ q = 2 ∨ q = 3 ∨ q = 4 ∨ q = 5 ∨ q = 6 := by omega
        · rw [if_neg (by omega), if_neg (by omega), if_neg (by omega), if_neg (by omega), if_neg (by omega), if_neg (by omega), if_pos (by omega)]; rfl
        · rw [if_neg (by omega), if_neg (by omega), if_neg (by omega), if_neg (by omega), if_neg (by omega), if_pos rfl]; rfl
        · rw [if_neg (by omega), if_neg (by omega), if_neg (by omega), if_neg (by omega), if_pos rfl]; rfl
        · rw [if_neg (by omega), if_neg (by omega), if_neg (by omega), if_pos rfl]; rfl
        · rw [if_neg (by omega), if_neg (by omega), if_pos rfl]; rfl
        · rw [if_neg (by omega), if_pos rfl]; rfl
        · rw [if_pos rfl]; rfl
      · rw [e5]
        exact OAt.kept keptO_str hu hsz fun d hd => key d (by rw [List.mem_singleton.1 hd]; have := h.bel.size; omega)
theorem flat_single (bs : List Nat) : (bs.map fun b => [b]).flatten = bs := by
  induction bs with
  | nil => rfl
  | cons b t ih => rw [List.map_cons, List.flatten_cons, ih]; rfl
theorem sesssO_of {w w1 : World} {t : TypeId} {xs : List Sess} {cap : Nat} {f : Nat → Value} {bs : List Nat} (hl : xs.length ≤ 9223372036854775807) (hs : ∀ i (h : i < xs.length), xs[i].tag.size ≤ 9223372036854775807 ∧ xs[i].query.size ≤ 9223372036854775807) (h : OSF w t xs xs.length w1 f bs) :
    OSesss w1 (.slice (some ⟨w.heap.size, 0, none⟩) xs.length cap) xs (w.heap.size :: bs) ∧ (w.heap.size :: bs).Nodup ∧ ∀ b ∈ w.heap.size :: bs, w.heap.size ≤ b := by
  refine ⟨⟨hl, .inr ⟨_, 0, cap, bs.map fun b => [b], rfl, h.row.lt, by rw [flat_single], by rw [List.length_map]; exact h.len, fun i hi h2 => ?_⟩⟩, ?_, fun b hb => ?_⟩
  · have h3 : i < bs.length := by rw [List.length_map] at h2; exact h2
    obtain ⟨q1, q2⟩ := h.el i hi h3
    rw [List.getElem_map]
    refine ⟨f (i * 7 + 5), fun q hq => ⟨?_, ?_⟩, (hs i hi).1, (hs i hi).2, q2⟩
    · rw [← q1 q hq, Nat.zero_add]
      exact h.row.cell (by omega)
    · rw [Nat.zero_add]
      exact h.row.frozen _
  · rw [List.nodup_cons]
    exact ⟨fun hm => by have := (h.rng _ hm).1; omega, h.nd⟩
  · rw [List.mem_cons] at hb
    rcases hb with rfl | hb
    · exact Nat.le_refl _
    · have := (h.rng b hb).1; omega
/-- what toTable makes: in blocks of its own -/
def OTbl (w : World) (xs : List Sess) (u : Value) (w' : World) : Prop := ∃ bs, OSesss w' u xs bs ∧ bs.Nodup ∧ (∀ b ∈ bs, w.heap.size ≤ b) ∧ Below w.heap.size w w'
end Go.Proofs.YtpmnepalchgcbaaGreatDoor.Msg
