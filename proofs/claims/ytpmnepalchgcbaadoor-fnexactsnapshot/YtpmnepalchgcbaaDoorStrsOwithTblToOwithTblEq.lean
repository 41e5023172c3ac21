import Derived.Test.YtpmnepalchgcbaaDoorMsgTowithMsgTo2withTblSz
import Derived.Test.YtpmnepalchgcbaaDoorTblTowithTblTo2withMarkStr
import Derived.Test.YtpmnepalchgcbaaDoorMarkMsgwithMarkWantwithMarkTbl
namespace Go.Proofs.YtpmnepalchgcbaaDoor.Msg
open Go.ChangeShapes Go.WideShapes Go.ChangeAt Go.RowKit
set_option linter.unusedVariables false
set_option linter.unusedSimpArgs false

/-! toStringS: what it makes is owned -/
theorem ostrs_of_row {W : World} {B : Nat} {xs : List ByteArray} (hl : xs.length ≤ 9223372036854775807) (hz : ∀ i (h : i < xs.length), xs[i].size ≤ 9223372036854775807) (h : W.rowIs B 9 xs.length (strsRow xs xs.length)) (hlt : B < W.heap.size) :
    OStrs W (.slice (some ⟨B, 0, none⟩) xs.length xs.length) xs [B] := by
  refine ⟨hl, .inr ⟨B, 0, xs.length, List.replicate xs.length [], rfl, hlt, ?_, by simp, ?_⟩⟩
  · have : (List.replicate xs.length ([] : List Nat)).flatten = [] := by simp
    rw [this]
  · intro i hi h2
    refine ⟨?_, ?_, hz i hi, by simp⟩
    · have := h.cell hi
      simp only [Nat.zero_add, Nat.mul_one]
      rw [this]
      simp [strsRow, hi]
    · simpa using h.frozen i

set_option maxHeartbeats 2000000 in
theorem toStrsO_any (xs : List ByteArray) (v : Value) (w : World) (hn : xs.length ≤ 1048576) {lo : Nat} (hv : StrsAt lo w v xs) :
    Calls Tryd.prog 45 #[v] w fun e w' => ∃ B, e = .returned (.slice (some ⟨B, 0, none⟩) xs.length xs.length) ∧ OStrs w' (.slice (some ⟨B, 0, none⟩) xs.length xs.length) xs [B] ∧ w.heap.size ≤ B ∧ Below w.heap.size w w' := by
  have hl := hv.1
  have hsz : ∀ i (h : i < xs.length), xs[i].size ≤ 9223372036854775807 := fun i h => by
    obtain ⟨a, cap, _, hc⟩ := hv.form
    obtain ⟨b, off, _, _, _, hr⟩ := hc i h
    exact hr.2
  obtain ⟨a, cap, rfl, hc⟩ := hv.form
  clear hv
  have HZ := hide hsz
  clear hsz
  have hmk := make_rows (P := Tryd.prog) 36 9 (.string ByteArray.empty) #[.string ByteArray.empty] 1 16 Tryd.underlying36 info_string rfl xs.length (by omega) (by omega)
  have hrow0 : (w.alloc (Obj.cells (madeCells #[Value.string ByteArray.empty] xs.length) 9)).rowIs w.heap.size 9 xs.length (strsRow xs 0) := by
    have := made_row w #[Value.string ByteArray.empty] xs.length 9 (by decide)
    refine this.congr ?_
    intro i _
    simp [strsRow, Nat.mod_one]
  go_enter Tryd.func45, Tryd.ntmps45
  go_wp2
  go_loopw [4] (fun i w1 => ∃ k : Nat, k ≤ xs.length ∧ i = .int .i64 k ∧ w1.rowIs w.heap.size 9 xs.length (strsRow xs k) ∧ Below w.heap.size w w1 ∧ w.heap.size < w1.heap.size) (fun i _ => xs.length - (intOf i).toNat)
  case atStart => exact ⟨0, Nat.zero_le _, rfl, hrow0, (Below.refl _ _).alloc (Nat.le_refl _) _, by simp⟩
  case round =>
    obtain ⟨k, hk, rfl, hrow, hb, hlt0⟩ := hrel
    by_cases hlt : k < xs.length
    · obtain ⟨b, off, rfl, _, hbl, hr⟩ := hc k hlt
      have h1 : wr.cell? ⟨b, off + k, none⟩ = some (.string xs[k]) := by rw [hb.cell (p := ⟨b, off + k, none⟩) hbl]; simpa using hr.1
      have h2 := hrow.cell hlt
      have h3 := hrow.frozen k
      clear hr hc
      go_wp2
      go_roundw
      case rel => exact ⟨k + 1, by omega, by go_num, (hrow.set k (.string xs[k])).congr fun j _ => strsRow_step xs k hlt j, hb.setCell (by simp) _, by rw [Deep.nblk_setCell]; exact hlt0⟩
      case measure => simp [intOf]; omega
    · obtain rfl : k = xs.length := by omega
      go_wp2
      go_ret
      exact ⟨_, rfl, ostrs_of_row hl HZ.out hrow hlt0, Nat.le_refl _, hb⟩
end Go.Proofs.YtpmnepalchgcbaaDoor.Msg

namespace Go.Proofs.YtpmnepalchgcbaaDoor.Msg
open Go.ChangeShapes Go.WideShapes Go.ChangeAt Go.RowKit
set_option linter.unusedVariables false
set_option linter.unusedSimpArgs false

/-! toTable: what it makes is owned -/
set_option maxHeartbeats 2000000 in
theorem toSessO (x : Sess) (v : Value) (w : World) {lo : Nat} (hn : x.rows.length ≤ 1048576) (hv : StrsAt lo w v x.rows) :
    Calls Tryd.prog 26 #[sessV x v] w fun e w' => ∃ B, e = .returned (sessV x (.slice (some ⟨B, 0, none⟩) x.rows.length x.rows.length)) ∧ OStrs w' (.slice (some ⟨B, 0, none⟩) x.rows.length x.rows.length) x.rows [B] ∧ w.heap.size ≤ B ∧ Below w.heap.size w w' := by
  obtain ⟨client, tag, query, page, state, rows, cursor⟩ := x
  simp only at hn hv
  obtain ⟨a, cap, hf, _⟩ := hv.form
  subst hf
  show Calls Tryd.prog 26 #[.agg #[.int .i64 client, .string tag, .string query, .int .i64 page, .int .i64 state, .slice a rows.length cap, .int .i64 cursor]] w _
  have HB0 := hide ((((Below.refl w.heap.size w).alloc (Nat.le_refl _) (Obj.cells #[.int .i64 client, .string tag, .string query, .int .i64 page, .int .i64 state, .slice a rows.length cap, .int .i64 cursor] 59)).alloc (by simp) (Obj.cells #[.int .i64 0, .string ⟨#[]⟩, .string ⟨#[]⟩, .int .i64 0, .int .i64 0, .slice none 0 0, .int .i64 0] 38)).alloc (by simp; omega) (Obj.cells #[.int .i64 client, .string tag, .string query, .int .i64 page, .int .i64 state, .slice none 0 0, .int .i64 0] 38))
  have HTO := hide (fun W hW => toStrsO_any rows (.slice a rows.length cap) W hn (At.kept kept_str hv (w' := W) hW))
  clear hv
  go_enter Tryd.func26, Tryd.ntmps26
  go_wp2_with fail
  refine (HTO.out _ HB0.out).mono ?_
  rintro e w4 ⟨B, rfl, hu, hB, hb⟩
  obtain ⟨hc, hf⟩ := bcells hb
  have hz : w.heap.size + 2 < w4.heap.size := by have := hb.size; simp at this; omega
  have hB3 : w.heap.size + 3 ≤ B := by simp at hB; omega
  have HU := hide hu
  have HB := hide hb
  have HB3 := hide hB3
  clear hu hb hB hB3
  go_wp2_with fail
  refine bodyPost_ret (v := .agg #[.int .i64 client, .string tag, .string query, .int .i64 page, .int .i64 state, .slice (some ⟨B, 0, none⟩) rows.length rows.length, .int .i64 cursor]) (by simp [results, Tryd.results26, go_sem, hc, hz]) rfl ⟨B, rfl, ?_, by have := HB3.out; omega, ?_⟩
  · refine OAt.kept keptO_str HU.out (by simp only [Deep.nblk_setCell]; exact Nat.le_refl _) fun d hd => ?_
    rw [List.mem_singleton.1 hd]
    have := HB3.out
    repeat (refine (Deep.blk_setCell_other _ _ _ _ (by dsimp only; omega)).trans ?_)
    rfl
  · have h0 := HB0.out.trans (HB.out.mono (by simp; omega))
    repeat refine Below.setCell ?_ (by simp; try omega) _
    exact h0

/-- the state of the loop that fills a row of new sessions -/
structure OSF (w : World) (t : TypeId) (xs : List Sess) (k : Nat) (w1 : World) (f : Nat → Value) (bs : List Nat) : Prop where
  row : w1.rowIs w.heap.size t (xs.length * 7) f
  len : bs.length = k
  nd : bs.Nodup
  rng : ∀ b ∈ bs, w.heap.size + 1 ≤ b ∧ b < w1.heap.size
  el : ∀ j (h : j < xs.length) (h2 : j < bs.length), (∀ q, q < 7 → f (j * 7 + q) = sC xs[j] (f (j * 7 + 5)) q) ∧ OStrs w1 (f (j * 7 + 5)) xs[j].rows [bs[j]]
  bel : Below w.heap.size w w1
theorem OSF.step {w wr w2 : World} {t : TypeId} {xs : List Sess} {k : Nat} {f : Nat → Value} {bs : List Nat} (h : OSF w t xs k wr f bs) (hb2 : Below wr.heap.size wr w2) (hk : k < xs.length) {u : Value} {B : Nat} (hu : OStrs w2 u xs[k].rows [B]) (hge : wr.heap.size ≤ B) :
    ∃ g, OSF w t xs (k + 1) (((((((w2.setCell ⟨w.heap.size, k * 7, none⟩ (.int .i64 xs[k].client)).setCell ⟨w.heap.size, k * 7 + 1, none⟩ (.string xs[k].tag)).setCell ⟨w.heap.size, k * 7 + 2, none⟩ (.string xs[k].query)).setCell ⟨w.heap.size, k * 7 + 3, none⟩ (.int .i64 xs[k].page)).setCell ⟨w.heap.size, k * 7 + 4, none⟩ (.int .i64 xs[k].state)).setCell ⟨w.heap.size, k * 7 + 5, none⟩ u).setCell ⟨w.heap.size, k * 7 + 6, none⟩ (.int .i64 xs[k].cursor)) g (bs ++ [B]) := by
  have hlt0 := h.row.lt
  have hs2 := hb2.size
  have hrow2 := h.row.of_block (hb2.block _ hlt0)
  have hlt := OAt.lt ltO_str hu B (by simp)
  have hl := h.len
  refine ⟨_, (((((((hrow2.set (k * 7) (.int .i64 xs[k].client)).set (k * 7 + 1) (.string xs[k].tag)).set (k * 7 + 2) (.string xs[k].query)).set (k * 7 + 3) (.int .i64 xs[k].page)).set (k * 7 + 4) (.int .i64 xs[k].state)).set (k * 7 + 5) u).set (k * 7 + 6) (.int .i64 xs[k].cursor)), by simp [h.len], ?_, fun b hb => ?_, fun j hj h2 => ?_, ((((((((h.bel.trans (hb2.mono h.bel.size)).setCell (by simp) _).setCell (by simp) _).setCell (by simp) _).setCell (by simp) _).setCell (by simp) _).setCell (by simp) _).setCell (by simp) _)⟩
  · rw [List.nodup_append]
    exact ⟨h.nd, by simp, fun a ha c hc e => by have := (h.rng a ha).2; rw [List.mem_singleton.1 hc] at e; omega⟩
  · simp only [Deep.nblk_setCell]
    rcases List.mem_append.1 hb with hb | hb
    · have := h.rng b hb; omega
    · rw [List.mem_singleton.1 hb]; omega
  · have key : ∀ d, w.heap.size + 1 ≤ d → (((((((w2.setCell ⟨w.heap.size, k * 7, none⟩ (.int .i64 xs[k].client)).setCell ⟨w.heap.size, k * 7 + 1, none⟩ (.string xs[k].tag)).setCell ⟨w.heap.size, k * 7 + 2, none⟩ (.string xs[k].query)).setCell ⟨w.heap.size, k * 7 + 3, none⟩ (.int .i64 xs[k].page)).setCell ⟨w.heap.size, k * 7 + 4, none⟩ (.int .i64 xs[k].state)).setCell ⟨w.heap.size, k * 7 + 5, none⟩ u).setCell ⟨w.heap.size, k * 7 + 6, none⟩ (.int .i64 xs[k].cursor)).heap[d]? = w2.heap[d]? := fun d hd => by
      iterate 7 (refine (Deep.blk_setCell_other _ _ _ _ (by dsimp only; omega)).trans ?_)
      rfl
    have hsz : w2.heap.size ≤ (((((((w2.setCell ⟨w.heap.size, k * 7, none⟩ (.int .i64 xs[k].client)).setCell ⟨w.heap.size, k * 7 + 1, none⟩ (.string xs[k].tag)).setCell ⟨w.heap.size, k * 7 + 2, none⟩ (.string xs[k].query)).setCell ⟨w.heap.size, k * 7 + 3, none⟩ (.int .i64 xs[k].page)).setCell ⟨w.heap.size, k * 7 + 4, none⟩ (.int .i64 xs[k].state)).setCell ⟨w.heap.size, k * 7 + 5, none⟩ u).setCell ⟨w.heap.size, k * 7 + 6, none⟩ (.int .i64 xs[k].cursor)).heap.size := by simp only [Deep.nblk_setCell]; exact Nat.le_refl _
    by_cases hjk : j < bs.length
    · have e : (bs ++ [B])[j] = bs[j] := List.getElem_append_left hjk
      obtain ⟨q1, q2⟩ := h.el j hj hjk
      rw [e]
      have e5 : ∀ q, q < 7 → (if j * 7 + q = k * 7 + 6 then Value.int .i64 xs[k].cursor else if j * 7 + q = k * 7 + 5 then u else if j * 7 + q = k * 7 + 4 then .int .i64 xs[k].state else if j * 7 + q = k * 7 + 3 then .int .i64 xs[k].page else if j * 7 + q = k * 7 + 2 then .string xs[k].query else if j * 7 + q = k * 7 + 1 then .string xs[k].tag else if j * 7 + q = k * 7 then .int .i64 xs[k].client else f (j * 7 + q)) = f (j * 7 + q) := fun q hq => by
        rw [if_neg (by omega), if_neg (by omega), if_neg (by omega), if_neg (by omega), if_neg (by omega), if_neg (by omega), if_neg (by omega)]
      refine ⟨fun q hq => ?_, ?_⟩
      · rw [e5 q hq, e5 5 (by omega)]
        exact q1 q hq
      · rw [e5 5 (by omega)]
        refine OAt.kept keptO_str q2 (Nat.le_trans hs2 hsz) fun d hd => ?_
        have hd' := h.rng d (by rw [List.mem_singleton.1 hd]; exact List.getElem_mem hjk)
        rw [key d hd'.1]
        exact hb2.block d hd'.2
    · have hj2 : j = k := by simp at h2; omega
      subst hj2
      have e : (bs ++ [B])[j] = B := by rw [List.getElem_append_right (by omega)]; simp [hl]
      rw [e]
      have e5 : (if j * 7 + 5 = j * 7 + 6 then Value.int .i64 xs[j].cursor else if j * 7 + 5 = j * 7 + 5 then u else if j * 7 + 5 = j * 7 + 4 then .int .i64 xs[j].state else if j * 7 + 5 = j * 7 + 3 then .int .i64 xs[j].page else if j * 7 + 5 = j * 7 + 2 then .string xs[j].query else if j * 7 + 5 = j * 7 + 1 then .string xs[j].tag else if j * 7 + 5 = j * 7 then .int .i64 xs[j].client else f (j * 7 + 5)) = u := by
        rw [if_neg (by omega), if_pos rfl]
      refine ⟨fun q hq => ?_, ?_⟩
      · rw [e5]
        obtain rfl | rfl | rfl | rfl | rfl | rfl | rfl : q = 0 ∨ q = 1 ∨ q = 2 ∨ q = 3 ∨ q = 4 ∨ q = 5 ∨ q = 6 := by omega
        · rw [if_neg (by omega), if_neg (by omega), if_neg (by omega), if_neg (by omega), if_neg (by omega), if_neg (by omega), if_pos (by omega)]; rfl
        · rw [if_neg (by omega), if_neg (by omega), if_neg (by omega), if_neg (by omega), if_neg (by omega), if_pos rfl]; rfl
        · rw [if_neg (by omega), if_neg (by omega), if_neg (by omega), if_neg (by omega), if_pos rfl]; rfl
        · rw [if_neg (by omega), if_neg (by omega), if_neg (by omega), if_pos rfl]; rfl
        · rw [if_neg (by omega), if_neg (by omega), if_pos rfl]; rfl
        · rw [if_neg (by omega), if_pos rfl]; rfl
        · rw [if_pos rfl]; rfl
      · rw [e5]
        exact OAt.kept keptO_str hu hsz fun d hd => key d (by rw [List.mem_singleton.1 hd]; have := h.bel.size; omega)
theorem flat_single (bs : List Nat) : (bs.map fun b => [b]).flatten = bs := by
  induction bs with
  | nil => rfl
  | cons b t ih => rw [List.map_cons, List.flatten_cons, ih]; rfl
theorem sesssO_of {w w1 : World} {t : TypeId} {xs : List Sess} {cap : Nat} {f : Nat → Value} {bs : List Nat} (hl : xs.length ≤ 9223372036854775807) (hs : ∀ i (h : i < xs.length), xs[i].tag.size ≤ 9223372036854775807 ∧ xs[i].query.size ≤ 9223372036854775807) (h : OSF w t xs xs.length w1 f bs) :
    OSesss w1 (.slice (some ⟨w.heap.size, 0, none⟩) xs.length cap) xs (w.heap.size :: bs) ∧ (w.heap.size :: bs).Nodup ∧ ∀ b ∈ w.heap.size :: bs, w.heap.size ≤ b := by
  refine ⟨⟨hl, .inr ⟨_, 0, cap, bs.map fun b => [b], rfl, h.row.lt, by rw [flat_single], by rw [List.length_map]; exact h.len, fun i hi h2 => ?_⟩⟩, ?_, fun b hb => ?_⟩
  · have h3 : i < bs.length := by rw [List.length_map] at h2; exact h2
    obtain ⟨q1, q2⟩ := h.el i hi h3
    rw [List.getElem_map]
    refine ⟨f (i * 7 + 5), fun q hq => ⟨?_, ?_⟩, (hs i hi).1, (hs i hi).2, q2⟩
    · rw [← q1 q hq, Nat.zero_add]
      exact h.row.cell (by omega)
    · rw [Nat.zero_add]
      exact h.row.frozen _
  · rw [List.nodup_cons]
    exact ⟨fun hm => by have := (h.rng _ hm).1; omega, h.nd⟩
  · rw [List.mem_cons] at hb
    rcases hb with rfl | hb
    · exact Nat.le_refl _
    · have := (h.rng b hb).1; omega
/-- what toTable makes: in blocks of its own -/
def OTbl (w : World) (xs : List Sess) (u : Value) (w' : World) : Prop := ∃ bs, OSesss w' u xs bs ∧ bs.Nodup ∧ (∀ b ∈ bs, w.heap.size ≤ b) ∧ Below w.heap.size w w'
set_option maxHeartbeats 2000000 in
theorem toSesssO (xs : List Sess) (v : Value) (w : World) (hn : xs.length ≤ 1048576) (hn2 : ∀ i (h : i < xs.length), xs[i].rows.length ≤ 1048576) {lo : Nat} (hv : SesssAt lo w v xs) :
    Calls Tryd.prog 14 #[v] w fun e w' => ∃ B, e = .returned (.slice (some ⟨B, 0, none⟩) xs.length xs.length) ∧ OTbl w xs (.slice (some ⟨B, 0, none⟩) xs.length xs.length) w' := by
  have hl := hv.1
  have HZ : Hid (∀ i (h : i < xs.length), xs[i].tag.size ≤ 9223372036854775807 ∧ xs[i].query.size ≤ 9223372036854775807) := fun i h => by
    obtain ⟨a, cap, _, hc⟩ := hv.form
    obtain ⟨b, off, _, _, _, hr⟩ := hc i h
    exact ⟨hr.2.2.2.2.2.2.1, hr.2.2.2.2.2.2.2.1⟩
  obtain ⟨a, cap, rfl, hc⟩ := hv.form
  clear hv
  have HN := hide hn2
  have hmk := make_rows (P := Tryd.prog) 27 38 (.agg #[.int .i64 0, .string ByteArray.empty, .string ByteArray.empty, .int .i64 0, .int .i64 0, .slice none 0 0, .int .i64 0]) #[.int .i64 0, .string ByteArray.empty, .string ByteArray.empty, .int .i64 0, .int .i64 0, .slice none 0 0, .int .i64 0] 7 88 Tryd.underlying27 info_Sess rfl xs.length (by omega) (by omega)
  have hrow0 : OSF w 38 xs 0 (w.alloc (Obj.cells (madeCells #[.int .i64 0, .string ByteArray.empty, .string ByteArray.empty, .int .i64 0, .int .i64 0, .slice none 0 0, .int .i64 0] (xs.length * 7)) 38)) _ [] :=
    ⟨made_row w #[.int .i64 0, .string ByteArray.empty, .string ByteArray.empty, .int .i64 0, .int .i64 0, .slice none 0 0, .int .i64 0] (xs.length * 7) 38 (by decide), rfl, by simp, fun _ h => absurd h (by simp), fun j _ h => absurd h (by simp), (Below.refl _ _).alloc (Nat.le_refl _) _⟩
  clear hn2
  go_enter Tryd.func14, Tryd.ntmps14
  go_wp2
  go_loopw [4] (fun i w1 => ∃ k : Nat, k ≤ xs.length ∧ i = .int .i64 k ∧ ∃ f bs, OSF w 38 xs k w1 f bs) (fun i _ => xs.length - (intOf i).toNat)
  case atStart => exact ⟨0, Nat.zero_le _, rfl, _, _, hrow0⟩
  case round =>
    obtain ⟨k, hk, rfl, f, bs, hfil⟩ := hrel
    by_cases hlt : k < xs.length
    · obtain ⟨b, off, rfl, _, hbl, c0, c1, c2, c3, c4, c6, _, _, ve, c5, hel⟩ := hc k hlt
      have hb := hfil.bel
      have d0 : wr.cell? ⟨b, off + k * 7, none⟩ = some (.int .i64 xs[k].client) := by rw [hb.cell (p := ⟨b, off + k * 7, none⟩) hbl]; exact c0
      have d1 : wr.cell? ⟨b, off + k * 7 + 1, none⟩ = some (.string xs[k].tag) := by rw [hb.cell (p := ⟨b, off + k * 7 + 1, none⟩) hbl]; exact c1
      have d2 : wr.cell? ⟨b, off + k * 7 + 2, none⟩ = some (.string xs[k].query) := by rw [hb.cell (p := ⟨b, off + k * 7 + 2, none⟩) hbl]; exact c2
      have d3 : wr.cell? ⟨b, off + k * 7 + 3, none⟩ = some (.int .i64 xs[k].page) := by rw [hb.cell (p := ⟨b, off + k * 7 + 3, none⟩) hbl]; exact c3
      have d4 : wr.cell? ⟨b, off + k * 7 + 4, none⟩ = some (.int .i64 xs[k].state) := by rw [hb.cell (p := ⟨b, off + k * 7 + 4, none⟩) hbl]; exact c4
      have d5 : wr.cell? ⟨b, off + k * 7 + 5, none⟩ = some (ve) := by rw [hb.cell (p := ⟨b, off + k * 7 + 5, none⟩) hbl]; exact c5
      have d6 : wr.cell? ⟨b, off + k * 7 + 6, none⟩ = some (.int .i64 xs[k].cursor) := by rw [hb.cell (p := ⟨b, off + k * 7 + 6, none⟩) hbl]; exact c6
      have hel' := At.kept kept_str hel hb
      clear hc c0 c1 c2 c3 c4 c5 c6
      have hrow := hfil.row
      have r0 := hrow.cell (i := k * 7) (by omega)
      have f0 := hrow.frozen (k * 7)
      have r1 := hrow.cell (i := k * 7 + 1) (by omega)
      have f1 := hrow.frozen (k * 7 + 1)
      have r2 := hrow.cell (i := k * 7 + 2) (by omega)
      have f2 := hrow.frozen (k * 7 + 2)
      have r3 := hrow.cell (i := k * 7 + 3) (by omega)
      have f3 := hrow.frozen (k * 7 + 3)
      have r4 := hrow.cell (i := k * 7 + 4) (by omega)
      have f4 := hrow.frozen (k * 7 + 4)
      have r5 := hrow.cell (i := k * 7 + 5) (by omega)
      have f5 := hrow.frozen (k * 7 + 5)
      have r6 := hrow.cell (i := k * 7 + 6) (by omega)
      have f6 := hrow.frozen (k * 7 + 6)
      have hB := hrow.lt
      have HFIL := hide hfil
      have HBB := hide hb
      clear hfil hb hrow hmk hrow0
      go_wp2_with fail
      refine (toSessO xs[k] ve _ (HN.out k hlt) hel').mono ?_
      rintro e w2 ⟨B, rfl, hu, hBg, hb2⟩
      have h0 : w2.cell? ⟨w.heap.size, k * 7, none⟩ = some (f (k * 7)) := by rw [hb2.cell (p := ⟨w.heap.size, k * 7, none⟩) hB]; exact r0
      have e0 : w2.frozen? ⟨w.heap.size, k * 7, none⟩ = false := by rw [hb2.frozen (p := ⟨w.heap.size, k * 7, none⟩) hB]; exact f0
      have h1 : w2.cell? ⟨w.heap.size, k * 7 + 1, none⟩ = some (f (k * 7 + 1)) := by rw [hb2.cell (p := ⟨w.heap.size, k * 7 + 1, none⟩) hB]; exact r1
      have e1 : w2.frozen? ⟨w.heap.size, k * 7 + 1, none⟩ = false := by rw [hb2.frozen (p := ⟨w.heap.size, k * 7 + 1, none⟩) hB]; exact f1
      have h2 : w2.cell? ⟨w.heap.size, k * 7 + 2, none⟩ = some (f (k * 7 + 2)) := by rw [hb2.cell (p := ⟨w.heap.size, k * 7 + 2, none⟩) hB]; exact r2
      have e2 : w2.frozen? ⟨w.heap.size, k * 7 + 2, none⟩ = false := by rw [hb2.frozen (p := ⟨w.heap.size, k * 7 + 2, none⟩) hB]; exact f2
      have h3 : w2.cell? ⟨w.heap.size, k * 7 + 3, none⟩ = some (f (k * 7 + 3)) := by rw [hb2.cell (p := ⟨w.heap.size, k * 7 + 3, none⟩) hB]; exact r3
      have e3 : w2.frozen? ⟨w.heap.size, k * 7 + 3, none⟩ = false := by rw [hb2.frozen (p := ⟨w.heap.size, k * 7 + 3, none⟩) hB]; exact f3
      have h4 : w2.cell? ⟨w.heap.size, k * 7 + 4, none⟩ = some (f (k * 7 + 4)) := by rw [hb2.cell (p := ⟨w.heap.size, k * 7 + 4, none⟩) hB]; exact r4
      have e4 : w2.frozen? ⟨w.heap.size, k * 7 + 4, none⟩ = false := by rw [hb2.frozen (p := ⟨w.heap.size, k * 7 + 4, none⟩) hB]; exact f4
      have h5 : w2.cell? ⟨w.heap.size, k * 7 + 5, none⟩ = some (f (k * 7 + 5)) := by rw [hb2.cell (p := ⟨w.heap.size, k * 7 + 5, none⟩) hB]; exact r5
      have e5 : w2.frozen? ⟨w.heap.size, k * 7 + 5, none⟩ = false := by rw [hb2.frozen (p := ⟨w.heap.size, k * 7 + 5, none⟩) hB]; exact f5
      have h6 : w2.cell? ⟨w.heap.size, k * 7 + 6, none⟩ = some (f (k * 7 + 6)) := by rw [hb2.cell (p := ⟨w.heap.size, k * 7 + 6, none⟩) hB]; exact r6
      have e6 : w2.frozen? ⟨w.heap.size, k * 7 + 6, none⟩ = false := by rw [hb2.frozen (p := ⟨w.heap.size, k * 7 + 6, none⟩) hB]; exact f6
      have HFIN := hide (HFIL.out.step hb2 hlt hu hBg)
      clear hu hBg hb2 hel' d0 d1 d2 d3 d4 d5 d6 r0 r1 r2 r3 r4 r5 r6 f0 f1 f2 f3 f4 f5 f6
      unfold sessV
      go_wp2_with fail
      go_roundw
      case rel => exact ⟨k + 1, by omega, by go_num, HFIN.out.elim fun g h => ⟨g, _, h⟩⟩
      case measure => simp [intOf]; omega
    · obtain rfl : k = xs.length := by omega
      go_wp2
      go_ret
      obtain ⟨h1, h2, h3⟩ := sesssO_of (cap := xs.length) hl HZ.out hfil
      exact ⟨_, rfl, _, h1, h2, h3, hfil.bel⟩

set_option maxHeartbeats 400000 in
theorem toTblO (x : List Sess) (v : Value) (w : World) (hn : x.length ≤ 1048576) (hn2 : ∀ i (h : i < x.length), x[i].rows.length ≤ 1048576) {lo : Nat} (hv : SesssAt lo w v x) :
    Calls Tryd.prog 6 #[.agg #[v]] w fun e w' => ∃ B, e = .returned (.agg #[.slice (some ⟨B, 0, none⟩) x.length x.length]) ∧ OTbl w x (.slice (some ⟨B, 0, none⟩) x.length x.length) w' := by
  have hb0 := (((Below.refl w.heap.size w).alloc (Nat.le_refl _) (Obj.cells #[v] 24)).alloc (by simp) (Obj.cells #[.slice none 0 0] 29)).alloc (by simp; omega) (Obj.cells #[.slice none 0 0] 29)
  have hv' := At.kept kept_sess hv hb0
  go_enter Tryd.func6, Tryd.ntmps6
  go_wp2_with fail
  refine (toSesssO x v _ hn hn2 hv').mono ?_
  rintro e w4 ⟨B, rfl, bs, hu, hnd, hge, hb⟩
  obtain ⟨hc, hf⟩ := bcells hb
  have hz : w.heap.size + 2 < w4.heap.size := by have := hb.size; simp at this; omega
  have hge2 : ∀ b ∈ bs, w.heap.size + 3 ≤ b := fun b h => by have := hge b h; simp at this; omega
  have HU := hide hu
  have HND := hide hnd
  have HGE := hide hge2
  have HB := hide hb
  have HB0 := hide hb0
  clear hu hnd hge hge2 hb hb0 hv' hv
  go_wp2_with fail
  refine bodyPost_ret (v := .agg #[.slice (some ⟨B, 0, none⟩) x.length x.length]) (by simp [results, Tryd.results6, go_sem, hc, hz]) rfl ⟨_, rfl, bs, ?_, HND.out, fun b h => by have := HGE.out b h; omega, ?_⟩
  · refine OAt.kept keptO_sess HU.out (by simp only [Deep.nblk_setCell]; exact Nat.le_refl _) fun d hd => ?_
    have := HGE.out d hd
    iterate 2 (refine (Deep.blk_setCell_other _ _ _ _ (by dsimp only; omega)).trans ?_)
    rfl
  · exact ((HB0.out.trans (HB.out.mono (by simp; omega))).setCell (by simp; omega) _).setCell (by simp) _
end Go.Proofs.YtpmnepalchgcbaaDoor.Msg

namespace Go.Proofs.YtpmnepalchgcbaaDoor.Msg
open Go.ChangeShapes Go.WideShapes Go.ChangeAt Go.RowKit
set_option linter.unusedVariables false
set_option linter.unusedSimpArgs false

set_option maxHeartbeats 2000000 in
theorem eqSesss_any (xs : List Sess) (v u : Value) (w : World) {lo lo2 : Nat} (hv : SesssAt lo w v xs) (hu : SesssAt lo2 w u xs) :
    Calls Tryd.prog 21 #[v, u] w fun e w' => e = .returned (.bool true) ∧ Below w.heap.size w w' := by
  obtain ⟨hl, hv⟩ := hv
  obtain ⟨_, hu⟩ := hu
  by_cases hx : xs = []
  · subst hx
    obtain ⟨a0, c0, rfl⟩ : ∃ a c, v = .slice a 0 c := by
      rcases hv with ⟨_, _, rfl, _⟩ | ⟨b, off, cap, rfl, _⟩
      · exact ⟨_, _, rfl⟩
      · exact ⟨_, _, rfl⟩
    obtain ⟨a1, c1, rfl⟩ : ∃ a c, u = .slice a 0 c := by
      rcases hu with ⟨_, _, rfl, _⟩ | ⟨b, off, cap, rfl, _⟩
      · exact ⟨_, _, rfl⟩
      · exact ⟨_, _, rfl⟩
    clear hv hu
    go_enter Tryd.func21, Tryd.ntmps21
    go_wp2
    go_loop [5] (fun i => i = .int .i64 0) (fun _ => 0)
    case atStart => rfl
    case round =>
      subst hrel
      go_wp2
      go_ret
      exact ⟨rfl, Below.refl _ _⟩
  · rcases hv with ⟨_, _, _, e⟩ | ⟨b, off, cap, rfl, ⟨_, hlt⟩, hc⟩
    · exact absurd e hx
    rcases hu with ⟨_, _, _, e⟩ | ⟨b2, off2, cap2, rfl, ⟨_, hlt2⟩, hc2⟩
    · exact absurd e hx
    clear hx
    go_enter Tryd.func21, Tryd.ntmps21
    go_wp2
    go_loopw [5] (fun i w1 => ∃ k : Nat, k ≤ xs.length ∧ i = .int .i64 k ∧ Below w.heap.size w w1) (fun i _ => xs.length - (intOf i).toNat)
    case atStart => exact ⟨0, Nat.zero_le _, rfl, Below.refl _ _⟩
    case round =>
      obtain ⟨k, hk, rfl, hb⟩ := hrel
      by_cases hk2 : k < xs.length
      · obtain ⟨x, hxk⟩ : ∃ x, xs[k] = x := ⟨_, rfl⟩
        obtain ⟨p, hp⟩ : ∃ p, off + k * 7 = p := ⟨_, rfl⟩
        obtain ⟨p2, hp2⟩ : ∃ p2, off2 + k * 7 = p2 := ⟨_, rfl⟩
        have g := hc k hk2
        have g2 := hc2 k hk2
        rw [hxk, hp] at g
        rw [hxk, hp2] at g2
        obtain ⟨c0, c1, c2, c3, c4, c6, _, _, ve, c5, hel⟩ := g
        obtain ⟨d0, d1, d2, d3, d4, d6, _, _, ue, d5, hel2⟩ := g2
        have KS : Hid (∀ X, Below w.heap.size w X → (X.cell? ⟨b, p, none⟩ = some (.int .i64 x.client) ∧ X.cell? ⟨b, p + 1, none⟩ = some (.string x.tag) ∧ X.cell? ⟨b, p + 2, none⟩ = some (.string x.query) ∧ X.cell? ⟨b, p + 3, none⟩ = some (.int .i64 x.page) ∧ X.cell? ⟨b, p + 4, none⟩ = some (.int .i64 x.state) ∧ X.cell? ⟨b, p + 5, none⟩ = some (ve) ∧ X.cell? ⟨b, p + 6, none⟩ = some (.int .i64 x.cursor)) ∧ (X.cell? ⟨b2, p2, none⟩ = some (.int .i64 x.client) ∧ X.cell? ⟨b2, p2 + 1, none⟩ = some (.string x.tag) ∧ X.cell? ⟨b2, p2 + 2, none⟩ = some (.string x.query) ∧ X.cell? ⟨b2, p2 + 3, none⟩ = some (.int .i64 x.page) ∧ X.cell? ⟨b2, p2 + 4, none⟩ = some (.int .i64 x.state) ∧ X.cell? ⟨b2, p2 + 5, none⟩ = some (ue) ∧ X.cell? ⟨b2, p2 + 6, none⟩ = some (.int .i64 x.cursor)) ∧ Below w.heap.size w X) := fun X h =>
          ⟨⟨(h.cell (by exact hlt)).trans c0, (h.cell (by exact hlt)).trans c1, (h.cell (by exact hlt)).trans c2, (h.cell (by exact hlt)).trans c3, (h.cell (by exact hlt)).trans c4, (h.cell (by exact hlt)).trans c5, (h.cell (by exact hlt)).trans c6⟩, ⟨(h.cell (by exact hlt2)).trans d0, (h.cell (by exact hlt2)).trans d1, (h.cell (by exact hlt2)).trans d2, (h.cell (by exact hlt2)).trans d3, (h.cell (by exact hlt2)).trans d4, (h.cell (by exact hlt2)).trans d5, (h.cell (by exact hlt2)).trans d6⟩, h⟩
        have HEL := hide hel
        have HEL2 := hide hel2
        obtain ⟨ae, ce, hfe⟩ : ∃ a c, ve = .slice a x.rows.length c := by obtain ⟨a, c, e, _⟩ := hel.form; exact ⟨a, c, e⟩
        obtain ⟨au, cu, hfu⟩ : ∃ a c, ue = .slice a x.rows.length c := by obtain ⟨a, c, e, _⟩ := hel2.form; exact ⟨a, c, e⟩
        subst hfe hfu
        have hi : (k : Int) < (xs.length : Int) := by omega
        have hi0 : (0 : Int) ≤ (k : Int) := by omega
        have HB := hide hb
        clear hc hc2 c0 c1 c2 c3 c4 c5 c6 d0 d1 d2 d3 d4 d5 d6 hel hel2 hxk hb
        go_wp2_with fail
        obtain ⟨D, hwd⟩ : ∃ D, wr.drew = D := ⟨_, rfl⟩
        have hbd0 : Below w.heap.size w wr.drew := bjoin (Below.refl _ _).drew HB.out
        have hD : Below w.heap.size w D := by rw [← hwd]; exact hbd0
        go_region_held3 (fun X => (X.cell? ⟨b, p, none⟩ = some (.int .i64 x.client) ∧ X.cell? ⟨b, p + 1, none⟩ = some (.string x.tag) ∧ X.cell? ⟨b, p + 2, none⟩ = some (.string x.query) ∧ X.cell? ⟨b, p + 3, none⟩ = some (.int .i64 x.page) ∧ X.cell? ⟨b, p + 4, none⟩ = some (.int .i64 x.state) ∧ X.cell? ⟨b, p + 5, none⟩ = some (.slice ae x.rows.length ce) ∧ X.cell? ⟨b, p + 6, none⟩ = some (.int .i64 x.cursor)) ∧ (X.cell? ⟨b2, p2, none⟩ = some (.int .i64 x.client) ∧ X.cell? ⟨b2, p2 + 1, none⟩ = some (.string x.tag) ∧ X.cell? ⟨b2, p2 + 2, none⟩ = some (.string x.query) ∧ X.cell? ⟨b2, p2 + 3, none⟩ = some (.int .i64 x.page) ∧ X.cell? ⟨b2, p2 + 4, none⟩ = some (.int .i64 x.state) ∧ X.cell? ⟨b2, p2 + 5, none⟩ = some (.slice au x.rows.length cu) ∧ X.cell? ⟨b2, p2 + 6, none⟩ = some (.int .i64 x.cursor)) ∧ Below w.heap.size w X)
          (first | with_reducible exact KS.out _ hbd0 | with_reducible exact KS.out _ hD | with_reducible exact KS.out _ hb9)
          (first | (go_at_call 38; refine (eqSess_any x (.slice ae x.rows.length ce) (.slice au x.rows.length cu) _ (At.kept kept_str HEL.out hD) (At.kept kept_str HEL2.out hD)).mono ?_; rintro e w2 ⟨rfl, hb2⟩; have hb9 : Below w.heap.size w w2 := bjoin hb2 hD))
        go_wp2_with fail
        go_roundw
        case rel => exact ⟨k + 1, by omega, by go_num, hb9⟩
        case measure => simp [intOf]; omega
      · go_wp2
        go_ret
        exact ⟨rfl, hb⟩
set_option maxHeartbeats 400000 in
theorem eqTbl_any (x : List Sess) (v u : Value) (w : World) {lo lo2 : Nat} (hv : SesssAt lo w v x) (hu : SesssAt lo2 w u x) :
    Calls Tryd.prog 8 #[.agg #[v], .agg #[u]] w fun e w' => e = .returned (.bool true) ∧ Below w.heap.size w w' := by
  have hb := ((Below.refl w.heap.size w).alloc (Nat.le_refl _) (Obj.cells #[v] 29)).alloc (by simp) (Obj.cells #[u] 29)
  have hv' := At.kept kept_sess hv hb
  have hu' := At.kept kept_sess hu hb
  go_enter Tryd.func8, Tryd.ntmps8
  go_wp2_with fail
  refine (eqSesss_any x v u _ hv' hu').mono ?_
  rintro e w' ⟨rfl, hb'⟩
  go_wp2_with fail
  go_ret
  exact ⟨rfl, hb.trans (hb'.mono (by simp; omega))⟩
end Go.Proofs.YtpmnepalchgcbaaDoor.Msg
