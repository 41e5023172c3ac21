import Derived.Test.YtjpdgcodjnnljaaLogPure
import Derived.Test.YtjpdgcodjnnljaaShelf
import Derived.Lib.Builder
namespace Go.Proofs.Ytjpdgcodjnnljaa.Msg
open Go.ChangeShapes Go.WideShapes Go.ChangeAt Go.RowKit Go.Shelf
set_option linter.unusedVariables false
set_option linter.unusedSimpArgs false

theorem bld_size : (Try.prog.info? 175).map (·.size) = some 2 := by kernel_rfl
theorem bld_lies : liesAt Try.prog Try.prog.depth 175 (2 / Try.prog.cellsOf 175) 0 175 1 = true := by kernel_rfl
theorem bld_cells (l : List UInt8) : Lib.byteCells l = u8s l := rfl

set_option maxHeartbeats 1000000 in
set_option maxRecDepth 100000 in
theorem copyCheck_used (b : Nat) (w : World) (h0 : w.cell? ⟨b, 0, none⟩ = some (.pointer (some ⟨b, 0, none⟩))) :
    Calls Try.prog 146 #[.pointer (some ⟨b, 0, none⟩)] w fun e w' => e = .returned (.tuple #[]) ∧ w' = w := by
  obtain ⟨j, hj, _⟩ := Option.map_eq_some_iff.1 bld_size
  go_enter Try.func146, Try.ntmps146
  go_wp2
  first
    | (go_end0; exact ⟨rfl, rfl⟩)
    | (rw [Lib.run_neq_ptr_same w _ Try.underlying173 hj]
       go_wp2
       go_end0
       exact ⟨rfl, rfl⟩)

set_option maxHeartbeats 1000000 in
set_option maxRecDepth 100000 in
theorem copyCheck_fresh (b : Nat) (w : World) (h0 : w.cell? ⟨b, 0, none⟩ = some (.pointer none)) (hsh : w.shape? b = some (175, 2)) (hfz : w.frozen? ⟨b, 0, none⟩ = false) :
    Calls Try.prog 146 #[.pointer (some ⟨b, 0, none⟩)] w fun e w' => e = .returned (.tuple #[]) ∧ w' = w.setCell ⟨b, 0, none⟩ (.pointer (some ⟨b, 0, none⟩)) := by
  obtain ⟨j, hj, hjs⟩ := Option.map_eq_some_iff.1 bld_size
  go_enter Try.func146, Try.ntmps146
  go_wp2
  rw [Lib.run_to_unsafe w ⟨b, 0, none⟩ Try.underlying173 Try.underlying193 hj (by rw [hjs]; decide) hsh (Nat.zero_lt_succ 1)]
  simp only [Result.andThen]
  rw [Oper.upon_value]
  go_wp2
  rw [run_callFunc_extern Try.func156 (by kernel_rfl) (by kernel_rfl) (by kernel_rfl) (e := Extern.AbiNoEscape.same) (by kernel_rfl)]
  rw [Lib.run_noEscape]
  simp only [Result.andThen]
  rw [Oper.upon_value]
  go_wp2
  rw [Lib.run_from_unsafe w ⟨b, 0, none⟩ Try.underlying193 Try.underlying173 hj hsh bld_lies]
  simp only [Result.andThen]
  rw [Oper.upon_value]
  go_wp2
  go_end0
  exact ⟨rfl, rfl⟩

theorem copyCheck_any (B b : Nat) (bs : List Value) (w : World) (h : Lib.IsBuilder 175 5 B b bs w) :
    Calls Try.prog 146 #[.pointer (some ⟨b, 0, none⟩)] w fun e w' => e = .returned (.tuple #[]) ∧ (Lib.BuilderAt 175 5 B b (.pointer (some ⟨b, 0, none⟩)) bs w' ∧ Below B w w') := by
  rcases h with h | h
  · refine (copyCheck_fresh b w h.cell0 h.shape h.frozen0).mono ?_
    rintro e w' ⟨rfl, rfl⟩
    exact ⟨rfl, h.used _, (Below.refl B w).setCell (p := ⟨b, 0, none⟩) h.1 _⟩
  · refine (copyCheck_used b w h.cell0).mono ?_
    rintro e w' ⟨rfl, rfl⟩
    exact ⟨rfl, h, Below.refl B _⟩

set_option maxHeartbeats 2000000 in
set_option maxRecDepth 100000 in
theorem writeStr_any (B b : Nat) (bs : List Value) (s : ByteArray) (w : World) (h : Lib.IsBuilder 175 5 B b bs w) (hlen : bs.length + s.size ≤ 70368744177664) (hBw : B ≤ w.heap.size) :
    Calls Try.prog 132 #[.pointer (some ⟨b, 0, none⟩), .string s] w fun e w' => e = .returned (.tuple #[.int .i64 s.size, .nilIface]) ∧ (Lib.BuilderAt 175 5 B b (.pointer (some ⟨b, 0, none⟩)) (bs ++ Lib.strCells s) w' ∧ Below B w w') := by
  obtain ⟨i0, hi, hz0, hz1, hz2⟩ := u8_facts
  go_enter Try.func132, Try.ntmps132
  go_wp2_with (go_at_call 146; refine (copyCheck_any B b bs _ h).mono ?_)
  rintro e w1 ⟨rfl, h1, hb1⟩
  obtain ⟨hB, v, hbk, hown, hne⟩ := h1
  have c0 : w1.cell? ⟨b, 0, none⟩ = some (.pointer (some ⟨b, 0, none⟩)) := by rw [Lib.cell_of_heap hbk]; rfl
  have c1 : w1.cell? ⟨b, 1, none⟩ = some v := by rw [Lib.cell_of_heap hbk]; rfl
  go_wp2_with (at_builtin; refine Lib.wpList_append_own_string _ rfl _ _ 22 9 rfl B 5 i0 Try.underlying22 Try.underlying9 hi hz0 hz1 hz2 _ _ _ rfl hown s rfl ?c3 ?c4 ?c5 ?_)
  case c3 => unfold maxLen; omega
  case c4 => omega
  case c5 => have := hb1.size; omega
  intro v' w2 hown' hgrow _
  have hlt : b < w1.heap.size := by
    rcases Nat.lt_or_ge b w1.heap.size with h' | h'
    · exact h'
    · simp [Array.getElem?_eq_none h'] at hbk
  have hb2 : w2.heap[b]? = some (.cells #[.pointer (some ⟨b, 0, none⟩), v] 175 (0, 0)) := by
    rw [hgrow.block b hlt (fun e => hne e.symm)]
    exact hbk
  have d0 : w2.cell? ⟨b, 0, none⟩ = some (.pointer (some ⟨b, 0, none⟩)) := by rw [Lib.cell_of_heap hb2]; rfl
  have d1 : w2.cell? ⟨b, 1, none⟩ = some v := by rw [Lib.cell_of_heap hb2]; rfl
  have f1 : w2.frozen? ⟨b, 1, none⟩ = false := Lib.frozen_of_heap hb2 1
  obtain ⟨ao, n', cap, rfl⟩ : ∃ ao n' cap, v' = .slice ao n' cap := by
    rcases hown'.2 with ⟨hv, _⟩ | ⟨g, cap, cur, hv, _⟩
    · exact ⟨_, _, _, hv⟩
    · exact ⟨_, _, _, hv⟩
  go_wp2
  go_ret2
  refine ⟨rfl, ?_, ?_⟩
  · exact Lib.BuilderAt.put (T := 175) (e := 5) hB hb2 (bs' := bs ++ Lib.strCells s) (by simpa [Lib.strCells_length] using hown') (by decide)
  · exact (hb1.grown hgrow (by have := hb1.size; omega) (fun k hk => (hown.lt k hk).1)).setCell (p := ⟨b, 1, none⟩) hB _

set_option maxRecDepth 100000 in
set_option maxHeartbeats 1000000 in
theorem unmark_any (s : ByteArray) (m : Nat) (w : World) (hs : s.size = 32 * m) (hm : m ≤ 1048576) :
    Calls Try.prog 117 #[.string s] w fun e w' => e = .returned (.string ⟨(unmC s.data.toList m).toArray⟩) ∧ Below w.heap.size w w' := by
  have HS := hide hs
  have hsz : s.size ≤ 33554432 := by omega
  have HFR := hide (Lib.fresh_isBuilder 175 5 w)
  obtain ⟨w1, hw1⟩ : ∃ w1, w.alloc (.cells #[.pointer none, .slice none 0 0] 175) = w1 := ⟨_, rfl⟩
  rw [hw1] at HFR
  have bel1 : Below w.heap.size w w1 := by rw [← hw1]; exact (Below.refl _ _).alloc (Nat.le_refl _) _
  have HB1 := hide bel1
  clear hs bel1
  go_enter Try.func117, Try.ntmps117
  go_wp2_with fail
  go_loopg [4] m (fun q i wr => ∃ k : Nat, k ≤ m ∧ q = m - k ∧ i = .int .i64 ((32 * k : Nat) : Int) ∧ Lib.IsBuilder 175 5 w.heap.size w.heap.size (Lib.byteCells (unmC s.data.toList k)) wr ∧ Below w.heap.size w wr)
  case atStart => exact ⟨0, Nat.zero_le _, rfl, rfl, HFR.out, HB1.out⟩
  case round =>
    obtain ⟨k, hk, rfl, rfl, hI, hb⟩ := hrel
    have HI := hide hI
    have HB := hide hb
    have hbs := hb.size
    have hpl := unmC_length s.data.toList k (by have := HS.out; simp; omega)
    have HPL := hide hpl
    clear hI hb hpl
    by_cases hlt : k < m
    · have hki : ((32 * k : Nat) : Int) < (s.size : Int) := by have := HS.out; omega
      have hex : (s.extract (32 * k) (32 * k + 31)).size ≤ 31 := by rw [ByteArray.size_extract]; omega
      have HD : Hid (Lib.byteCells (unmC s.data.toList (k + 1)) = Lib.byteCells (unmC s.data.toList k) ++ Lib.strCells (s.extract (32 * k) (32 * k + 31))) := by
        show _ = _
        conv => lhs; unfold unmC
        simp only [Lib.byteCells, Lib.strCells, List.map_append, ByteArray.data_extract, Array.toList_extract, List.extract_eq_take_drop]
        rw [show 32 * k + 31 - 32 * k = 31 by omega]
      have hkl : 32 * k + 31 ≤ s.size := by have := HS.out; omega
      obtain ⟨p, hp⟩ : ∃ p, 32 * k + 31 = p := ⟨_, rfl⟩
      obtain ⟨o, ho⟩ : ∃ o, 32 * k = o := ⟨_, rfl⟩
      rw [hp] at HD hex hkl
      rw [ho] at HD hex hki
      rw [ho]
      have h1 : (o : Int) + 31 = (p : Int) := by omega
      have h2 : (o : Int) ≤ (p : Int) := by omega
      have h3 : (p : Int) ≤ (s.size : Int) := by omega
      have HEND : Hid ((o : Int) + 32 = ((32 * (k + 1) : Nat) : Int)) := by show _ = _; omega
      have ho6 : o ≤ 33554432 := by omega
      have HLEN : Hid ((Lib.byteCells (unmC s.data.toList k)).length + (s.extract o p).size ≤ 70368744177664) := by show _ ≤ _; rw [Lib.byteCells_length, HPL.out]; omega
      clear hp ho
      go_wp2_with fail
      refine (writeStr_any w.heap.size w.heap.size _ _ _ HI.out HLEN.out hbs).mono ?_
      rintro e w5 ⟨rfl, hI5, hb5⟩
      rw [← HD.out] at hI5
      have HI5 := hide hI5
      have HB5 := hide (HB.out.trans hb5)
      clear hI5 hb5
      go_wp2_with fail
      go_roundg (m - (k + 1))
      case measure => omega
      case rel => exact ⟨k + 1, by omega, rfl, by rw [← HEND.out], .inr HI5.out, HB5.out⟩
    · obtain rfl : k = m := by omega
      have hki : ¬ ((32 * k : Nat) : Int) < (s.size : Int) := by have := HS.out; omega
      have hki2 : ¬ (32 * (k : Int)) < (s.size : Int) := by omega
      go_wp2_with fail
      refine (Try.Builder_String_any w.heap.size w.heap.size _ _ HI.out hbs).mono ?_
      rintro e w5 ⟨rfl, hb5⟩
      have HB5 := hide (HB.out.trans hb5)
      clear hb5
      go_wp2_with fail
      go_ret
      exact ⟨rfl, HB5.out⟩
end Go.Proofs.Ytjpdgcodjnnljaa.Msg
