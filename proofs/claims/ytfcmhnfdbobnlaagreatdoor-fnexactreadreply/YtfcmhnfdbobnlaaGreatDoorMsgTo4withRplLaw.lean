import Derived.Test.YtfcmhnfdbobnlaaGreatDoorListBufwithParseRepswithMsgTo3
import Derived.Test.YtfcmhnfdbobnlaaGreatDoorWLetterwithRplOfwithRplErr
import Derived.Test.YtfcmhnfdbobnlaaGreatDoorMsgDatawithMsgSzwithMsgSz2
import Derived.Test.YtfcmhnfdbobnlaaGreatDoorMsgEqwithMsgEq2withMsgTo
import Derived.Test.YtfcmhnfdbobnlaaGreatDoorParseCutwithMsgTo2withMarkText
import Derived.Test.YtfcmhnfdbobnlaaGreatDoorImplCutwithMarkStrwithMarkMsg
namespace Go.Proofs.YtfcmhnfdbobnlaaGreatDoor.Msg
open Go.ChangeShapes Go.WideShapes Go.ChangeAt Go.RowKit
set_option linter.unusedVariables false
set_option linter.unusedSimpArgs false

/-- the state of the loop that fills a row of new segments, two cells each -/
def SegFill (w : World) (t : TypeId) (xs : List Seg) (k : Nat) (w1 : World) : Prop :=
  (∃ f, w1.rowIs w.heap.size t (xs.length * 2) f ∧ ∀ j (h : j < xs.length), j < k → f (j * 2) = .string xs[j].name ∧ FieldsAt (w.heap.size + 1) w1 (f (j * 2 + 1)) xs[j].fields) ∧ Below w.heap.size w w1

theorem segFill_step {w wr w2 : World} {t : TypeId} {xs : List Seg} {k : Nat} (h : SegFill w t xs k wr) (hb2 : Below wr.heap.size wr w2) (hk : k < xs.length) {u : Value} (hu : FieldsAt wr.heap.size w2 u xs[k].fields) :
    SegFill w t xs (k + 1) ((w2.setCell ⟨w.heap.size, k * 2, none⟩ (.string xs[k].name)).setCell ⟨w.heap.size, k * 2 + 1, none⟩ u) := by
  obtain ⟨⟨f, hrow, hel⟩, hb⟩ := h
  have hlt := hrow.lt
  have hrow2 := hrow.of_block (hb2.block _ hlt)
  refine ⟨⟨_, (hrow2.set (k * 2) (.string xs[k].name)).set (k * 2 + 1) u, fun j hj hjk => ?_⟩, ((hb.trans (hb2.mono hb.size)).setCell (by simp) _).setCell (by simp) _⟩
  have hs : Same (w.heap.size + 1) w2 ((w2.setCell ⟨w.heap.size, k * 2, none⟩ (.string xs[k].name)).setCell ⟨w.heap.size, k * 2 + 1, none⟩ u) := ((Same.refl _ _).setCell (by omega) _).setCell (by omega) _
  by_cases e : j = k
  · subst e
    refine ⟨by rw [if_neg (by omega), if_pos rfl], ?_⟩
    rw [if_pos rfl]
    exact At.same kept_field (At.mono mono_field hu (by omega)) hs
  · have h1 := hel j hj (by omega)
    refine ⟨by rw [if_neg (by omega), if_neg (by omega)]; exact h1.1, ?_⟩
    rw [if_neg (by omega), if_neg (by omega)]
    exact At.same kept_field (At.same kept_field h1.2 (Same.of_below hb2)) hs

theorem segs_of_fill {w w1 : World} {t : TypeId} {xs : List Seg} {cap : Nat} (hl : xs.length ≤ 9223372036854775807) (hs : ∀ i (h : i < xs.length), xs[i].name.size ≤ 9223372036854775807) (h : SegFill w t xs xs.length w1) :
    SegsAt w.heap.size w1 (.slice (some ⟨w.heap.size, 0, none⟩) xs.length cap) xs := by
  obtain ⟨⟨f, hrow, hel⟩, hb⟩ := h
  refine ⟨hl, .inr ⟨_, 0, cap, rfl, ⟨Nat.le_refl _, hrow.lt⟩, fun i hi => ?_⟩⟩
  have h1 := hel i hi hi
  have c0 := hrow.cell (i := i * 2) (by omega)
  have c1 := hrow.cell (i := i * 2 + 1) (by omega)
  rw [h1.1] at c0
  exact ⟨by simpa using c0, hs i hi, _, by simpa using c1, At.mono mono_field h1.2 (by omega)⟩

theorem info_Seg : (Tryz.prog.info? 45).map (fun i => (i.zero, i.size, i.bytes)) = some (some (.agg #[.string ByteArray.empty, .slice none 0 0]), 2, 40) := by kernel_rfl

set_option maxHeartbeats 400000 in
theorem toSegs_any (xs : List Seg) (v : Value) (w : World) (hn : MsgFits xs) {lo : Nat} (hv : SegsAt lo w v xs) :
    Calls Tryz.prog 18 #[v] w fun e w' => ∃ u, e = .returned u ∧ SegsAt w.heap.size w' u xs ∧ Below w.heap.size w w' := by
  have hl := hv.1
  have hl2 := hn.1
  have HZ : Hid (∀ i (h : i < xs.length), xs[i].name.size ≤ 9223372036854775807) := fun i h => by
    obtain ⟨a, cap, _, hc⟩ := hv.form
    obtain ⟨b, off, _, _, _, hr⟩ := hc i h
    exact hr.2.1
  obtain ⟨a, cap, rfl, hc⟩ := hv.form
  clear hv
  have HN := hide hn.2
  have hmk := make_rows (P := Tryz.prog) 31 45 (.agg #[.string ByteArray.empty, .slice none 0 0]) #[.string ByteArray.empty, .slice none 0 0] 2 40 Tryz.underlying31 info_Seg rfl xs.length (by omega) (by omega)
  have hrow0 : SegFill w 45 xs 0 (w.alloc (Obj.cells (madeCells #[Value.string ByteArray.empty, Value.slice none 0 0] (xs.length * 2)) 45)) :=
    ⟨⟨_, made_row w #[Value.string ByteArray.empty, Value.slice none 0 0] (xs.length * 2) 45 (by decide), fun j _ h => absurd h (by omega)⟩, (Below.refl _ _).alloc (Nat.le_refl _) _⟩
  clear hn
  go_enter Tryz.func18, Tryz.ntmps18
  go_wp2
  go_loopw [4] (fun i w1 => ∃ k : Nat, k ≤ xs.length ∧ i = .int .i64 k ∧ SegFill w 45 xs k w1) (fun i _ => xs.length - (intOf i).toNat)
  case atStart => exact ⟨0, Nat.zero_le _, rfl, hrow0⟩
  case round =>
    obtain ⟨k, hk, rfl, hfil⟩ := hrel
    by_cases hlt : k < xs.length
    · obtain ⟨b, off, rfl, _, hbl, hc0, _, ve, hcell, hel⟩ := hc k hlt
      have hb := hfil.2
      have h0 : wr.cell? ⟨b, off + k * 2, none⟩ = some (.string xs[k].name) := by rw [hb.cell (p := ⟨b, off + k * 2, none⟩) hbl]; exact hc0
      have h1 : wr.cell? ⟨b, off + k * 2 + 1, none⟩ = some ve := by rw [hb.cell (p := ⟨b, off + k * 2 + 1, none⟩) hbl]; exact hcell
      have hel' := At.kept kept_field hel hb
      clear hc hcell hc0
      obtain ⟨f, hrow, _⟩ := hfil.1
      have h2 := hrow.cell (i := k * 2) (by omega)
      have h3 := hrow.frozen (k * 2)
      have h2b := hrow.cell (i := k * 2 + 1) (by omega)
      have h3b := hrow.frozen (k * 2 + 1)
      have hB := hrow.lt
      go_wp2_with fail
      refine (toSeg_any xs[k] ve _ (HN.out k hlt) hel').mono ?_
      rintro e w2 ⟨u, rfl, hu, hb2⟩
      have h4 : w2.cell? ⟨w.heap.size, k * 2, none⟩ = some (f (k * 2)) := by rw [hb2.cell (p := ⟨w.heap.size, k * 2, none⟩) hB]; exact h2
      have h5 : w2.frozen? ⟨w.heap.size, k * 2, none⟩ = false := by rw [hb2.frozen (p := ⟨w.heap.size, k * 2, none⟩) hB]; exact h3
      have h4b : w2.cell? ⟨w.heap.size, k * 2 + 1, none⟩ = some (f (k * 2 + 1)) := by rw [hb2.cell (p := ⟨w.heap.size, k * 2 + 1, none⟩) hB]; exact h2b
      have h5b : w2.frozen? ⟨w.heap.size, k * 2 + 1, none⟩ = false := by rw [hb2.frozen (p := ⟨w.heap.size, k * 2 + 1, none⟩) hB]; exact h3b
      obtain ⟨a2, cap2, rfl, _⟩ := hu.form
      have hfin := segFill_step hfil hb2 hlt hu
      go_wp2_with fail
      go_roundw
      case rel => exact ⟨k + 1, by omega, by go_num, hfin⟩
      case measure => simp [intOf]; omega
    · obtain rfl : k = xs.length := by omega
      go_wp2
      go_ret
      exact ⟨_, rfl, segs_of_fill hl HZ.out hfil, hfil.2⟩

set_option maxHeartbeats 400000 in
theorem toMsg_any (x : List Seg) (v : Value) (w : World) (hn : MsgFits x) {lo : Nat} (hv : SegsAt lo w v x) :
    Calls Tryz.prog 6 #[.agg #[v]] w fun e w' => ∃ u, e = .returned (.agg #[u]) ∧ SegsAt w.heap.size w' u x ∧ Below w.heap.size w w' := by
  have hb0 := (((Below.refl w.heap.size w).alloc (Nat.le_refl _) (Obj.cells #[v] 24)).alloc (by simp) (Obj.cells #[.slice none 0 0] 33)).alloc (by simp; omega) (Obj.cells #[.slice none 0 0] 33)
  have hv' := At.kept kept_seg hv hb0
  go_enter Tryz.func6, Tryz.ntmps6
  go_wp2_with fail
  refine (toSegs_any x v _ hn hv').mono ?_
  rintro e w4 ⟨u, rfl, hu, hb⟩
  obtain ⟨hc, hf⟩ := bcells hb
  have hz : w.heap.size + 2 < w4.heap.size := by have := hb.size; simp at this; omega
  obtain ⟨a, cap, rfl, _⟩ := hu.form
  go_wp2_with fail
  refine bodyPost_ret (v := .agg #[.slice a x.length cap]) (by simp [results, Tryz.results6, go_sem, hc, hz]) rfl ⟨_, rfl, ?_, ?_⟩
  · have hu2 : SegsAt (w.heap.size + 3) w4 (.slice a x.length cap) x := by simpa using hu
    exact At.mono mono_seg (At.same kept_seg hu2 (((Same.refl _ _).setCell (by omega) _).setCell (by omega) _)) (by omega)
  · exact ((hb0.trans (hb.mono (by simp; omega))).setCell (by simp; omega) _).setCell (by simp) _

end Go.Proofs.YtfcmhnfdbobnlaaGreatDoor.Msg

namespace Go.Proofs.YtfcmhnfdbobnlaaGreatDoor.Msg
open Go.ChangeShapes Go.WideShapes Go.ChangeAt Go.RowKit
set_option linter.unusedVariables false
set_option linter.unusedSimpArgs false

/-! the laws' own functions over replies -/
def rplSz (r : Rpl) : Nat := r.ack.size + r.control.size + r.tag.size + repSz r.rows + r.pointer.size
theorem ostrs_of_row {W : World} {B : Nat} {xs : List ByteArray} (hl : xs.length ≤ 9223372036854775807) (hz : ∀ i (h : i < xs.length), xs[i].size ≤ 9223372036854775807) (h : W.rowIs B 9 xs.length (strsRow xs xs.length)) (hlt : B < W.heap.size) :
    OStrs W (.slice (some ⟨B, 0, none⟩) xs.length xs.length) xs [B] := by
  refine ⟨hl, .inr ⟨B, 0, xs.length, List.replicate xs.length [], rfl, hlt, ?_, by simp, ?_⟩⟩
  · have : (List.replicate xs.length ([] : List Nat)).flatten = [] := by simp
    rw [this]
  · intro i hi h2
    refine ⟨?_, ?_, hz i hi, by simp⟩
    · have := h.cell hi
      simp only [Nat.zero_add, Nat.mul_one]
      rw [this]
      simp [strsRow, hi]
    · simpa using h.frozen i

set_option maxHeartbeats 2000000 in
theorem toStrsO_any (xs : List ByteArray) (v : Value) (w : World) (hn : xs.length ≤ 1048576) {lo : Nat} (hv : StrsAt lo w v xs) :
    Calls Tryz.prog 115 #[v] w fun e w' => ∃ B, e = .returned (.slice (some ⟨B, 0, none⟩) xs.length xs.length) ∧ OStrs w' (.slice (some ⟨B, 0, none⟩) xs.length xs.length) xs [B] ∧ w.heap.size ≤ B ∧ Below w.heap.size w w' := by
  have hl := hv.1
  have hsz : ∀ i (h : i < xs.length), xs[i].size ≤ 9223372036854775807 := fun i h => by
    obtain ⟨a, cap, _, hc⟩ := hv.form
    obtain ⟨b, off, _, _, _, hr⟩ := hc i h
    exact hr.2
  obtain ⟨a, cap, rfl, hc⟩ := hv.form
  clear hv
  have HZ := hide hsz
  clear hsz
  have hmk := make_rows (P := Tryz.prog) 26 9 (.string ByteArray.empty) #[.string ByteArray.empty] 1 16 Tryz.underlying26 info_string rfl xs.length (by omega) (by omega)
  have hrow0 : (w.alloc (Obj.cells (madeCells #[Value.string ByteArray.empty] xs.length) 9)).rowIs w.heap.size 9 xs.length (strsRow xs 0) := by
    have := made_row w #[Value.string ByteArray.empty] xs.length 9 (by decide)
    refine this.congr ?_
    intro i _
    simp [strsRow, Nat.mod_one]
  go_enter Tryz.func115, Tryz.ntmps115
  go_wp2
  go_loopw [4] (fun i w1 => ∃ k : Nat, k ≤ xs.length ∧ i = .int .i64 k ∧ w1.rowIs w.heap.size 9 xs.length (strsRow xs k) ∧ Below w.heap.size w w1 ∧ w.heap.size < w1.heap.size) (fun i _ => xs.length - (intOf i).toNat)
  case atStart => exact ⟨0, Nat.zero_le _, rfl, hrow0, (Below.refl _ _).alloc (Nat.le_refl _) _, by simp⟩
  case round =>
    obtain ⟨k, hk, rfl, hrow, hb, hlt0⟩ := hrel
    by_cases hlt : k < xs.length
    · obtain ⟨b, off, rfl, _, hbl, hr⟩ := hc k hlt
      have h1 : wr.cell? ⟨b, off + k, none⟩ = some (.string xs[k]) := by rw [hb.cell (p := ⟨b, off + k, none⟩) hbl]; simpa using hr.1
      have h2 := hrow.cell hlt
      have h3 := hrow.frozen k
      clear hr hc
      go_wp2
      go_roundw
      case rel => exact ⟨k + 1, by omega, by go_num, (hrow.set k (.string xs[k])).congr fun j _ => strsRow_step xs k hlt j, hb.setCell (by simp) _, by rw [Deep.nblk_setCell]; exact hlt0⟩
      case measure => simp [intOf]; omega
    · obtain rfl : k = xs.length := by omega
      go_wp2
      go_ret
      exact ⟨_, rfl, ostrs_of_row hl HZ.out hrow hlt0, Nat.le_refl _, hb⟩

set_option maxHeartbeats 2000000 in
theorem eqRpl_any (r : Rpl) (v u : Value) (w : World) {lo lo2 : Nat} (hv : StrsAt lo w v r.rows) (hu : StrsAt lo2 w u r.rows) :
    Calls Tryz.prog 8 #[rplV r v, rplV r u] w fun e w' => e = .returned (.bool true) ∧ Below w.heap.size w w' := by
  obtain ⟨ack, control, code, tag, rows, pointer⟩ := r
  simp only at hv hu
  obtain ⟨a, cap, hf, _⟩ := hv.form
  subst hf
  obtain ⟨a2, cap2, hf, _⟩ := hu.form
  subst hf
  show Calls Tryz.prog 8 #[.agg #[.string ack, .string control, .int .i64 code, .string tag, .slice a rows.length cap, .string pointer], .agg #[.string ack, .string control, .int .i64 code, .string tag, .slice a2 rows.length cap2, .string pointer]] w _
  have HB0 := hide (((Below.refl w.heap.size w).alloc (Nat.le_refl _) (Obj.cells #[.string ack, .string control, .int .i64 code, .string tag, .slice a rows.length cap, .string pointer] 28)).alloc (by simp) (Obj.cells #[.string ack, .string control, .int .i64 code, .string tag, .slice a2 rows.length cap2, .string pointer] 28))
  have HE := hide (fun W hW => eqStrs_any rows (.slice a rows.length cap) (.slice a2 rows.length cap2) W (At.kept kept_str hv (w' := W) hW) (At.kept kept_str hu (w' := W) hW))
  clear hv hu
  go_enter Tryz.func8, Tryz.ntmps8
  go_wp2_with fail
  refine (HE.out _ HB0.out).mono ?_
  rintro e w4 ⟨rfl, hb⟩
  obtain ⟨hc, hf⟩ := bcells hb
  have HB := hide hb
  clear hb
  go_wp2_with fail
  go_ret
  exact ⟨rfl, HB0.out.trans (HB.out.mono (by simp; omega))⟩

set_option maxHeartbeats 2000000 in
theorem markRpl_any (r : Rpl) (v : Value) (bs : List Nat) (w : World) (hkb : 1 + cRep r.rows ≤ 4611686018427387904) (hv : OStrs w v r.rows bs) :
    Calls Tryz.prog 11 #[rplV r v, .int .i64 1] w fun e w' => e = .returned (.int .i64 ((1 + cRep r.rows : Nat) : Int)) ∧ Only bs w w' ∧ OStrs w' v (mkRep 1 r.rows) bs := by
  obtain ⟨ack, control, code, tag, rows, pointer⟩ := r
  simp only at hkb hv
  obtain ⟨a, cap, hf, _⟩ := (OAt.toAt toAt_str hv (lo := 0) (fun _ _ => Nat.zero_le _)).form
  subst hf
  show Calls Tryz.prog 11 #[.agg #[.string ack, .string control, .int .i64 code, .string tag, .slice a rows.length cap, .string pointer], .int .i64 1] w _
  have hb := (Below.refl w.heap.size w).alloc (Nat.le_refl _) (Obj.cells #[.string ack, .string control, .int .i64 code, .string tag, .slice a rows.length cap, .string pointer] 28)
  have HM := hide (markStrs_any rows (.slice a rows.length cap) bs 1 (w.alloc (Obj.cells #[.string ack, .string control, .int .i64 code, .string tag, .slice a rows.length cap, .string pointer] 28)) (Nat.le_refl _) hkb (OAt.kept keptO_str hv hb.size fun d hd => hb.block d (OAt.lt ltO_str hv d hd)))
  have HB := hide hb
  clear hv hb hkb
  go_enter Tryz.func11, Tryz.ntmps11
  go_wp2_with fail
  refine HM.out.mono ?_
  rintro e w4 ⟨rfl, hon, hO⟩
  have HON := hide hon
  have HO := hide hO
  clear hon hO
  go_wp2_with fail
  go_ret
  exact ⟨rfl, (Only.of_below HB.out).trans HON.out, HO.out⟩

end Go.Proofs.YtfcmhnfdbobnlaaGreatDoor.Msg
