import Derived.Test.YtebdfmijlnkcbaaGreatDoorQryRead
import Derived.Test.YtebdfmijlnkcbaaGreatDoorShelf
import Derived.WalkSmall
import Derived.Lib.AtoiErrMem
import Derived.Lib.AppendIntMem
namespace Go.Proofs.YtebdfmijlnkcbaaGreatDoor.Msg
open Go.ChangeShapes Go.WideShapes Go.ChangeAt Go.RowKit
set_option linter.unusedVariables false
set_option linter.unusedSimpArgs false

/-- what the library's functions ask of the package's variables -/
structure Env (w : World) : Prop where
  tab : Lib.TabIs Tryz.prog w "internal/strconv.uint64pow10" .u64 Lib.pow10Tab
  syn : ∃ ev, w.cell? ⟨1, 0, none⟩ = some ev ∧ (ev = .nilIface ∨ ∃ te pe, ev = .iface te pe)
  rng : ∃ ev, w.cell? ⟨2, 0, none⟩ = some ev ∧ (ev = .nilIface ∨ ∃ te pe, ev = .iface te pe)
theorem lt_of_cell {w : World} {b o : Nat} {v : Value} (h : w.cell? ⟨b, o, none⟩ = some v) : b < w.heap.size := by
  rcases Nat.lt_or_ge b w.heap.size with h' | h'
  · exact h'
  · simp [World.cell?, Array.getElem?_eq_none h'] at h
theorem tabG : Tryz.prog.globalNamed "internal/strconv.uint64pow10" = some 3 := by kernel_rfl
theorem tab_kept {w w' : World} (h : Below w.heap.size w w') (hv : Lib.TabIs Tryz.prog w "internal/strconv.uint64pow10" .u64 Lib.pow10Tab) : Lib.TabIs Tryz.prog w' "internal/strconv.uint64pow10" .u64 Lib.pow10Tab := by
  have hc : w.cell? ⟨3, 0, none⟩ = some (.int .u64 1) := by simpa [Lib.pow10Tab] using World.var?_cell tabG hv 0
  exact var?_below h tabG (lt_of_cell hc) hv
theorem Env.kept {w w' : World} (h : Env w) (hb : Below w.heap.size w w') : Env w' := by
  obtain ⟨h1, ⟨e2, c2, d2⟩, ⟨e3, c3, d3⟩⟩ := h
  exact ⟨tab_kept hb h1, ⟨e2, by rw [hb.cell (p := ⟨1, 0, none⟩) (lt_of_cell c2)]; exact c2, d2⟩, ⟨e3, by rw [hb.cell (p := ⟨2, 0, none⟩) (lt_of_cell c3)]; exact c3, d3⟩⟩

theorem itoaT (v : Int) (s : ByteArray) : ((⟨(Lib.itoa v).toArray⟩ : ByteArray).toList == s.toList) = (Lib.itoa v == s.data.toList) := by
  rw [ByteArray.toList_eq, ByteArray.toList_eq]

set_option maxRecDepth 100000 in
set_option maxHeartbeats 1000000 in
theorem numberOf_any (s : ByteArray) (w : World) (hs : s.size ≤ 1048576) (hE : Env w) :
    Calls Tryz.prog 49 #[.string s] w fun e w' => e = .returned (.int .i64 (numI s.data.toList)) ∧ Below w.heap.size w w' := by
  have HE := hide hE
  clear hE
  have HN : Hid (numI s.data.toList = match Lib.atoiAll s.data.toList with
    | .ok v => if Lib.itoa v == s.data.toList then v else 0
    | _ => 0) := rfl
  cases ha : Lib.atoiAll s.data.toList with
  | ok v =>
    have HB := hide (Lib.atoiAll_bounds ha)
    have HA := hide ha
    have HI := hide (itoaT v s)
    have HAT : Hid (∀ W, Calls Tryz.prog 53 #[.string s] W fun e w' => e = .returned (.tuple #[.int .i64 v, .nilIface]) ∧ Below W.heap.size W w') := fun W => (Tryz.strconv_Atoi_ok s (by omega) v HA.out W).mono fun e w' ⟨h1, h2⟩ => ⟨h1, by
      rcases h2 with rfl | ⟨t, rfl⟩
      · exact Below.refl _ _
      · exact Lib.bytesWorld_below _ _ _⟩
    have HIT : Hid (∀ W, Env W → Calls Tryz.prog 54 #[.int .i64 v] W fun e w' => e = .returned (.string ⟨(Lib.itoa v).toArray⟩) ∧ Below W.heap.size W w') := fun W hW => (Tryz.strconv_Itoa v HB.out.1 HB.out.2 W hW.tab).mono fun e w' ⟨h1, k, os, h2⟩ => ⟨h1, by subst h2; exact Lib.below_grow _ _ (Nat.le_refl _) _ _⟩
    obtain ⟨z, hz⟩ : ∃ z : ByteArray, (⟨(Lib.itoa v).toArray⟩ : ByteArray) = z := ⟨_, rfl⟩
    rw [hz] at HI HIT
    clear hz ha
    cases he : (z.toList == s.toList)
    · have HX : Hid (numI s.data.toList = 0) := by rw [HN.out, HA.out]; show (if _ then _ else _) = _; rw [← HI.out, he]; rfl
      go_enter Tryz.func49, Tryz.ntmps49
      go_wp2_with fail
      refine (HAT.out _).mono ?_
      rintro e w1 ⟨rfl, hb1⟩
      have HE1 := hide (HE.out.kept hb1)
      go_wp2_with (go_at_call 54; refine (HIT.out _ HE1.out).mono ?_; rintro e w2 ⟨rfl, hb2⟩)
      go_ret
      exact ⟨ret_int HX.out.symm, bjoin hb2 hb1⟩
    · have HX : Hid (numI s.data.toList = v) := by rw [HN.out, HA.out]; show (if _ then _ else _) = _; rw [← HI.out, he]; rfl
      go_enter Tryz.func49, Tryz.ntmps49
      go_wp2_with fail
      refine (HAT.out _).mono ?_
      rintro e w1 ⟨rfl, hb1⟩
      have HE1 := hide (HE.out.kept hb1)
      go_wp2_with (go_at_call 54; refine (HIT.out _ HE1.out).mono ?_; rintro e w2 ⟨rfl, hb2⟩)
      go_ret
      exact ⟨ret_int HX.out.symm, bjoin hb2 hb1⟩
  | «syntax» =>
    have HX : Hid (numI s.data.toList = 0) := by rw [HN.out, ha]; trivial
    obtain ⟨ev, hv, hev⟩ := HE.out.syn
    have HAT := hide (Tryz.strconv_Atoi_syntax s (by omega) ha ev w hv hev)
    clear ha hv hev
    go_enter Tryz.func49, Tryz.ntmps49
    go_wp2_with fail
    refine HAT.out.mono ?_
    rintro e w1 ⟨N, rfl, _, _, hb1⟩
    go_wp2_with fail
    go_ret
    exact ⟨ret_int HX.out.symm, hb1⟩
  | range =>
    have HX : Hid (numI s.data.toList = 0) := by rw [HN.out, ha]; trivial
    obtain ⟨ev, hv, hev⟩ := HE.out.rng
    have HAT := hide (Tryz.strconv_Atoi_range s (by omega) ha ev w hv hev)
    clear ha hv hev
    go_enter Tryz.func49, Tryz.ntmps49
    go_wp2_with fail
    refine HAT.out.mono ?_
    rintro e w1 ⟨N, rfl, _, _, hb1⟩
    go_wp2_with fail
    go_ret
    exact ⟨ret_int HX.out.symm, hb1⟩
end Go.Proofs.YtebdfmijlnkcbaaGreatDoor.Msg
