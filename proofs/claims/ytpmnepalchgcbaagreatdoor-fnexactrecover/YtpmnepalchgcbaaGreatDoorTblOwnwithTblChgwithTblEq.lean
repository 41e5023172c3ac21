import Derived.Test.YtpmnepalchgcbaaGreatDoorTblCopywithTblKitwithTblCopyT
import Derived.Test.YtpmnepalchgcbaaGreatDoorMsgTo2withChgLawwithMsgSz3
import Derived.Test.YtpmnepalchgcbaaGreatDoorTblTowithTblTo2withTblToO
import Derived.Test.YtpmnepalchgcbaaGreatDoorMarkSegwithHeldMsgwithHeldTbl
namespace Go.Proofs.YtpmnepalchgcbaaGreatDoor.Msg
open Go.ChangeShapes Go.WideShapes Go.ChangeAt Go.RowKit
set_option linter.unusedVariables false
set_option linter.unusedSimpArgs false

/-! a table in memory of its own, said over its sessions and where their rows lie -/
structure TE (base : Nat) (X : World) (v : Value) (ps : List (Sess × Value)) : Prop where
  row : FB tsC 7 51 base X v ps
  els : ∀ p ∈ ps, SmS p.1 ∧ FB tC 1 9 base X p.2 p.1.rows
  nd : ((ps.map (·.2)).filterMap Value.ownBlock).Nodup
theorem TE.nil (base : Nat) (X : World) : TE base X (.slice none 0 0) [] := ⟨FB.nil _ _ _ _ _, (fun _ h => absurd h (by simp)), by simp⟩
theorem TB.te {base : Nat} {X : World} {v : Value} {ps : List (Sess × Value)} {xs : List Sess} (h : TB base X v ps xs) : TE base X v ps ∧ ps.map Prod.fst = xs := by
  refine ⟨⟨h.row, fun p hp => ?_, h.nd⟩, ?_⟩
  · obtain ⟨i, hi, rfl⟩ := List.mem_iff_getElem.1 hp
    obtain ⟨⟨e, hs⟩, hI⟩ := h.els.2.2 i hi (by rw [← h.len]; exact hi)
    rw [← e] at hs hI
    exact ⟨hs, hI.rows.1⟩
  · apply List.ext_getElem
    · rw [List.length_map]; exact h.len
    · intro i h1 h2
      rw [List.getElem_map]
      exact (h.els.2.2 i (by rw [List.length_map] at h1; exact h1) h2).1.1
theorem TE.form {base : Nat} {X : World} {v : Value} {ps : List (Sess × Value)} (h : TE base X v ps) : ∃ a c, v = .slice a ps.length c ∧ ps.length ≤ c ∧ c ≤ 9223372036854775807 := h.row.form
/-- the blocks that it lies in -/
def TE.In (v : Value) (ps : List (Sess × Value)) (b : Nat) : Prop := v.ownBlock = some b ∨ ∃ p ∈ ps, p.2.ownBlock = some b
theorem TE.keep {base : Nat} {X X' : World} {v : Value} {ps : List (Sess × Value)} (h : TE base X v ps) (hb : ∀ b, TE.In v ps b → X'.heap[b]? = X.heap[b]?) : TE base X' v ps :=
  ⟨h.row.keep fun b hb' => hb b (.inl (by simpa using hb')), fun p hp => ⟨(h.els p hp).1, (h.els p hp).2.keep fun b hb' => hb b (.inr ⟨p, hp, by simpa using hb'⟩)⟩, h.nd⟩
theorem TE.own {base : Nat} {X : World} {v : Value} {ps : List (Sess × Value)} (h : TE base X v ps) {b : Nat} (hb : TE.In v ps b) : base ≤ b ∧ b < X.heap.size := by
  rcases hb with hb | ⟨p, hp, hb⟩
  · exact h.row.own b (by rw [hb]; simp)
  · exact (h.els p hp).2.own b (by rw [hb]; simp)
theorem TE.below {base : Nat} {X X' : World} {v : Value} {ps : List (Sess × Value)} (h : TE base X v ps) (hb : Below X.heap.size X X') : TE base X' v ps := h.keep fun b hi => hb.block b (h.own hi).2
theorem TE.low {base base' : Nat} {X : World} {v : Value} {ps : List (Sess × Value)} (h : TE base X v ps) (hb : base' ≤ base) : TE base' X v ps := ⟨h.row.low hb, fun p hp => ⟨(h.els p hp).1, (h.els p hp).2.low hb⟩, h.nd⟩
theorem FB.blk {α : Type} {C : α → List Value} {c : Nat} {e : TypeId} {base : Nat} {w : World} {v : Value} {xs : List α} (h : FB C c e base w v xs) {b : Nat} (hb : v.ownBlock = some b) : ∃ cs, w.heap[b]? = some (.cells cs e (0, 0)) := by
  obtain ⟨_, ⟨rfl, h0⟩ | ⟨g, cap, cur, rfl, hg, hs, _⟩⟩ := h
  · simp [Value.ownBlock] at hb
  · simp [Value.ownBlock] at hb
    subst hb
    exact ⟨cur, hs⟩
/-- a box of another type lies elsewhere -/
theorem TE.apart {base : Nat} {X : World} {v : Value} {ps : List (Sess × Value)} (h : TE base X v ps) {b : Nat} {t : TypeId} {cs : Array Value} (hx : Box X b t cs) (h1 : t ≠ 51) (h2 : t ≠ 9) : ¬ TE.In v ps b := by
  have hb : X.heap[b]? = some (.cells cs t (0, 0)) := hx
  rintro (hi | ⟨p, hp, hi⟩)
  · obtain ⟨c, e⟩ := h.row.blk hi
    rw [hb] at e
    injection e with e
    injection e with _ e _
    exact h1 e
  · obtain ⟨c, e⟩ := (h.els p hp).2.blk hi
    rw [hb] at e
    injection e with e
    injection e with _ e _
    exact h2 e
theorem TE.setBox {base : Nat} {X : World} {v : Value} {ps : List (Sess × Value)} (h : TE base X v ps) {b o : Nat} {t : TypeId} {cs : Array Value} (hx : Box X b t cs) (x : Value) (h1 : t ≠ 51 := by decide) (h2 : t ≠ 9 := by decide) : TE base (X.setCell ⟨b, o, none⟩ x) v ps :=
  h.keep fun d hd => Deep.blk_setCell_other _ ⟨b, o, none⟩ _ d (by dsimp only; intro e; subst e; exact h.apart hx h1 h2 hd)
/-- for reading -/
theorem TE.sesss {base : Nat} {X : World} {v : Value} {ps : List (Sess × Value)} (h : TE base X v ps) (hz : ps.length ≤ 9223372036854775807) : SesssAt base X v (ps.map Prod.fst) := by
  obtain ⟨h0, hA⟩ := FB.at (C := tsC) (c := 7) (Z := fun _ => True) tsC_len h.row hz (fun _ _ => trivial)
  refine ⟨by rw [List.length_map]; exact hz, ?_⟩
  rcases hA with ⟨a, cap, e, rfl⟩ | ⟨b, off, cap, e, hbb, hA⟩
  · exact .inl ⟨a, cap, e, rfl⟩
  · refine .inr ⟨b, off, cap, by rw [List.length_map]; exact e, hbb, fun i hi => ?_⟩
    have hi1 : i < ps.length := by rw [List.length_map] at hi; exact hi
    obtain ⟨⟨z1, z2, z3, z4⟩, hF⟩ := h.els ps[i] (List.getElem_mem hi1)
    have c0 := (hA i hi1).1 0 (by simp [tsC])
    have c1 := (hA i hi1).1 1 (by simp [tsC])
    have c2 := (hA i hi1).1 2 (by simp [tsC])
    have c3 := (hA i hi1).1 3 (by simp [tsC])
    have c4 := (hA i hi1).1 4 (by simp [tsC])
    have c5 := (hA i hi1).1 5 (by simp [tsC])
    have c6 := (hA i hi1).1 6 (by simp [tsC])
    rw [List.getElem_map]
    exact ⟨by simpa [tsC] using c0, by simpa [tsC] using c1, by simpa [tsC] using c2, by simpa [tsC] using c3, by simpa [tsC] using c4, by simpa [tsC] using c6, z1, z2, ps[i].2, by simpa [tsC] using c5, tC_strs hF (by omega) z4⟩
/-- the cells of a session -/
theorem TE.cells {base : Nat} {X : World} {b off n cap : Nat} {ps : List (Sess × Value)} (h : TE base X (.slice (some ⟨b, off, none⟩) n cap) ps) (hz : ps.length ≤ 9223372036854775807) (k : Nat) (hk : k < ps.length) :
    b < X.heap.size ∧ X.cell? ⟨b, off + k * 7, none⟩ = some (.int .i64 ps[k].1.client) ∧ X.cell? ⟨b, off + k * 7 + 1, none⟩ = some (.string ps[k].1.tag) ∧ X.cell? ⟨b, off + k * 7 + 2, none⟩ = some (.string ps[k].1.query) ∧ X.cell? ⟨b, off + k * 7 + 3, none⟩ = some (.int .i64 ps[k].1.page) ∧ X.cell? ⟨b, off + k * 7 + 4, none⟩ = some (.int .i64 ps[k].1.state) ∧ X.cell? ⟨b, off + k * 7 + 5, none⟩ = some ps[k].2 ∧ X.cell? ⟨b, off + k * 7 + 6, none⟩ = some (.int .i64 ps[k].1.cursor) := by
  obtain ⟨h0, hA⟩ := FB.at (C := tsC) (c := 7) (Z := fun _ => True) tsC_len h.row hz (fun _ _ => trivial)
  rcases hA with ⟨a9, c9, e9, e2⟩ | ⟨b9, off9, c9, e9, hbb, hA⟩
  · rw [e2] at hk; simp at hk
  · injection e9 with e1 _ _
    injection e1 with e1
    injection e1 with e1 e2 _
    subst e1 e2
    have g := fun j hj => (hA k hk).1 j hj
    have c0 := g 0 (by simp [tsC])
    have c1 := g 1 (by simp [tsC])
    have c2 := g 2 (by simp [tsC])
    have c3 := g 3 (by simp [tsC])
    have c4 := g 4 (by simp [tsC])
    have c5 := g 5 (by simp [tsC])
    have c6 := g 6 (by simp [tsC])
    exact ⟨hbb.2, by simpa [tsC] using c0, by simpa [tsC] using c1, by simpa [tsC] using c2, by simpa [tsC] using c3, by simpa [tsC] using c4, by simpa [tsC] using c5, by simpa [tsC] using c6⟩
end Go.Proofs.YtpmnepalchgcbaaGreatDoor.Msg

namespace Go.Proofs.YtpmnepalchgcbaaGreatDoor.Msg
open Go.ChangeShapes Go.WideShapes Go.ChangeAt Go.RowKit
set_option linter.unusedVariables false
set_option linter.unusedSimpArgs false

/-! a table in memory of its own may be written -/
theorem fb_rows {base : Nat} {w : World} {v : Value} {xs : List ByteArray} (h : FB tC 1 9 base w v xs) (hl : xs.length ≤ 9223372036854775807) (hz : ∀ s ∈ xs, s.size ≤ 9223372036854775807) : OStrs w v xs v.ownBlock.toList := by
  obtain ⟨bs, ⟨_, hF⟩, h2, _⟩ := FO.of_own (C := tC) (c := 1) (fun _ => rfl) h hl
  rcases hF with ⟨a, cap, rfl, h0, rfl⟩ | ⟨b, off, cap, rfl, hlt, rfl, hc⟩
  · have hx : xs = [] := List.eq_nil_of_length_eq_zero h0
    subst hx
    obtain ⟨_, ⟨e, _⟩ | ⟨g, cap', cur, e, hg, hs, hcap, hm, hsz, htk⟩⟩ := h
    · injection e with e1 _ _
      subst e1
      exact ⟨hl, .inl ⟨_, _, rfl, rfl, rfl⟩⟩
    · injection e with e1 _ _
      subst e1
      have hglt : g < w.heap.size := by rw [Array.getElem?_eq_some_iff] at hs; exact hs.1
      exact ⟨hl, .inr ⟨g, 0, cap, [], rfl, hglt, rfl, rfl, fun i hi => absurd hi (by simp)⟩⟩
  · have hb := (h2 b (by simp)).2
    rw [hb]
    refine ⟨hl, .inr ⟨b, off, cap, List.replicate xs.length [], rfl, hlt, by simp, by simp, fun i hi h3 => ?_⟩⟩
    have q := hc i (by omega)
    have e : (flat tC xs).getD i (.int .i64 0) = .string xs[i] := by
      have := flat_get (C := tC) (c := 1) (fun _ => rfl) xs i 0 hi (by omega)
      rw [Nat.mul_one, Nat.add_zero] at this
      rw [List.getD_eq_getElem?_getD, this]
      rfl
    simp only [e] at q
    exact ⟨by simpa using q.1, by simpa using q.2, hz _ (List.getElem_mem hi), by simp⟩
theorem flat_own (ps : List (Sess × Value)) : (ps.map fun p => p.2.ownBlock.toList).flatten = (ps.map (·.2)).filterMap Value.ownBlock := by
  induction ps with
  | nil => rfl
  | cons p t ih =>
    rw [List.map_cons, List.flatten_cons, ih, List.map_cons, List.filterMap_cons]
    cases p.2.ownBlock <;> rfl
theorem TE.osesss {base : Nat} {X : World} {v : Value} {ps : List (Sess × Value)} (h : TE base X v ps) (hz : ps.length ≤ 9223372036854775807) : ∃ bs, OSesss X v (ps.map Prod.fst) bs ∧ bs.Nodup ∧ ∀ b ∈ bs, TE.In v ps b := by
  obtain ⟨bs, ⟨_, hF⟩, h2, _⟩ := FO.of_own (C := tsC) (c := 7) tsC_len h.row hz
  have hlm : (ps.map Prod.fst).length = ps.length := List.length_map ..
  rcases hF with ⟨a, cap, rfl, h0, rfl⟩ | ⟨b, off, cap, rfl, hlt, rfl, hc⟩
  · have hx : ps = [] := List.eq_nil_of_length_eq_zero h0
    subst hx
    exact ⟨[], ⟨by simp, .inl ⟨_, _, rfl, rfl, rfl⟩⟩, by simp, by simp⟩
  · have hb := (h2 b (by simp)).2
    refine ⟨b :: (ps.map fun p => p.2.ownBlock.toList).flatten, ⟨by rw [hlm]; exact hz, .inr ⟨b, off, cap, ps.map fun p => p.2.ownBlock.toList, by rw [hlm], hlt, rfl, by rw [hlm, List.length_map], fun i hi h3 => ?_⟩⟩, ?_, fun d hd => ?_⟩
    · have hi1 : i < ps.length := by rw [hlm] at hi; exact hi
      obtain ⟨⟨z1, z2, z3, z4⟩, hR⟩ := h.els ps[i] (List.getElem_mem hi1)
      rw [List.getElem_map, List.getElem_map]
      refine ⟨ps[i].2, fun q hq => ?_, z1, z2, fb_rows hR (by omega) z4⟩
      have g := hc (i * 7 + q) (by omega)
      have e : (flat tsC ps).getD (i * 7 + q) (.int .i64 0) = sC ps[i].1 ps[i].2 q := by
        rw [List.getD_eq_getElem?_getD, flat_get (C := tsC) (c := 7) tsC_len ps i q hi1 hq]
        obtain rfl | rfl | rfl | rfl | rfl | rfl | rfl : q = 0 ∨ q = 1 ∨ q = 2 ∨ q = 3 ∨ q = 4 ∨ q = 5 ∨ q = 6 := by omega
        all_goals rfl
      simp only [e] at g
      rw [← Nat.add_assoc] at g
      exact g
    · rw [List.nodup_cons, flat_own]
      refine ⟨fun hm => ?_, h.nd⟩
      obtain ⟨u, hu, hub⟩ := List.mem_filterMap.1 hm
      obtain ⟨p, hp, rfl⟩ := List.mem_map.1 hu
      obtain ⟨c1, e1⟩ := h.row.blk hb
      obtain ⟨c2, e2⟩ := (h.els p hp).2.blk hub
      rw [e1] at e2
      injection e2 with e2
      injection e2 with _ e2 _
      exact absurd e2 (by decide)
    · rw [flat_own] at hd
      rcases List.mem_cons.1 hd with rfl | hd
      · exact .inl hb
      · obtain ⟨u, hu, hub⟩ := List.mem_filterMap.1 hd
        obtain ⟨p, hp, rfl⟩ := List.mem_map.1 hu
        exact .inr ⟨p, hp, hub⟩
theorem cTbl_small (ps : List (Sess × Value)) (h : ∀ p ∈ ps, SmS p.1) : cTbl (ps.map Prod.fst) ≤ ps.length * 100006 := by
  unfold cTbl sumOf
  induction ps with
  | nil => simp
  | cons p t ih =>
    have h1 := ih fun q hq => h q (List.mem_cons_of_mem _ hq)
    have h2 := (h p (List.mem_cons_self ..)).2.2.1
    simp only [List.map_cons, List.sum_cons, List.length_cons, cSess, cRep_len]
    omega
theorem cTbl_sz (xs : List Sess) : cTbl xs ≤ 6 * tblSz xs := by
  unfold cTbl tblSz lenSum sumOf
  induction xs with
  | nil => simp
  | cons x t ih =>
    have h1 : x.rows.length ≤ sessSz x := by unfold sessSz repSz lenSum; omega
    simp only [List.map_cons, List.sum_cons, List.length_cons, cSess, cRep_len]
    omega
theorem tbl_fits {xs : List Sess} (h : tblSz xs ≤ 1048576) : xs.length ≤ 1048576 ∧ ∀ i (h : i < xs.length), xs[i].rows.length ≤ 1048576 := by
  refine ⟨by unfold tblSz lenSum at h; omega, fun i hi => ?_⟩
  have h1 : xs[i].rows.length ≤ sessSz xs[i] := by unfold sessSz repSz lenSum; omega
  have h2 : sumOf sessSz (xs.take (i + 1)) = sumOf sessSz (xs.take i) + sessSz xs[i] := sum_take sessSz xs i hi
  have h3 := sum_le sessSz xs (i + 1)
  unfold tblSz lenSum at h
  omega
end Go.Proofs.YtpmnepalchgcbaaGreatDoor.Msg

namespace Go.Proofs.YtpmnepalchgcbaaGreatDoor.Msg
open Go.ChangeShapes Go.WideShapes Go.ChangeAt Go.RowKit
set_option linter.unusedVariables false
set_option linter.unusedSimpArgs false

set_option maxHeartbeats 2000000 in
theorem eqSesss_any (xs : List Sess) (v u : Value) (w : World) {lo lo2 : Nat} (hv : SesssAt lo w v xs) (hu : SesssAt lo2 w u xs) :
    Calls Tryz.prog 19 #[v, u] w fun e w' => e = .returned (.bool true) ∧ Below w.heap.size w w' := by
  obtain ⟨hl, hv⟩ := hv
  obtain ⟨_, hu⟩ := hu
  by_cases hx : xs = []
  · subst hx
    obtain ⟨a0, c0, rfl⟩ : ∃ a c, v = .slice a 0 c := by
      rcases hv with ⟨_, _, rfl, _⟩ | ⟨b, off, cap, rfl, _⟩
      · exact ⟨_, _, rfl⟩
      · exact ⟨_, _, rfl⟩
    obtain ⟨a1, c1, rfl⟩ : ∃ a c, u = .slice a 0 c := by
      rcases hu with ⟨_, _, rfl, _⟩ | ⟨b, off, cap, rfl, _⟩
      · exact ⟨_, _, rfl⟩
      · exact ⟨_, _, rfl⟩
    clear hv hu
    go_enter Tryz.func19, Tryz.ntmps19
    go_wp2
    go_loop [5] (fun i => i = .int .i64 0) (fun _ => 0)
    case atStart => rfl
    case round =>
      subst hrel
      go_wp2
      go_ret
      exact ⟨rfl, Below.refl _ _⟩
  · rcases hv with ⟨_, _, _, e⟩ | ⟨b, off, cap, rfl, ⟨_, hlt⟩, hc⟩
    · exact absurd e hx
    rcases hu with ⟨_, _, _, e⟩ | ⟨b2, off2, cap2, rfl, ⟨_, hlt2⟩, hc2⟩
    · exact absurd e hx
    clear hx
    go_enter Tryz.func19, Tryz.ntmps19
    go_wp2
    go_loopw [5] (fun i w1 => ∃ k : Nat, k ≤ xs.length ∧ i = .int .i64 k ∧ Below w.heap.size w w1) (fun i _ => xs.length - (intOf i).toNat)
    case atStart => exact ⟨0, Nat.zero_le _, rfl, Below.refl _ _⟩
    case round =>
      obtain ⟨k, hk, rfl, hb⟩ := hrel
      by_cases hk2 : k < xs.length
      · obtain ⟨x, hxk⟩ : ∃ x, xs[k] = x := ⟨_, rfl⟩
        obtain ⟨p, hp⟩ : ∃ p, off + k * 7 = p := ⟨_, rfl⟩
        obtain ⟨p2, hp2⟩ : ∃ p2, off2 + k * 7 = p2 := ⟨_, rfl⟩
        have g := hc k hk2
        have g2 := hc2 k hk2
        rw [hxk, hp] at g
        rw [hxk, hp2] at g2
        obtain ⟨c0, c1, c2, c3, c4, c6, _, _, ve, c5, hel⟩ := g
        obtain ⟨d0, d1, d2, d3, d4, d6, _, _, ue, d5, hel2⟩ := g2
        have KS : Hid (∀ X, Below w.heap.size w X → (X.cell? ⟨b, p, none⟩ = some (.int .i64 x.client) ∧ X.cell? ⟨b, p + 1, none⟩ = some (.string x.tag) ∧ X.cell? ⟨b, p + 2, none⟩ = some (.string x.query) ∧ X.cell? ⟨b, p + 3, none⟩ = some (.int .i64 x.page) ∧ X.cell? ⟨b, p + 4, none⟩ = some (.int .i64 x.state) ∧ X.cell? ⟨b, p + 5, none⟩ = some (ve) ∧ X.cell? ⟨b, p + 6, none⟩ = some (.int .i64 x.cursor)) ∧ (X.cell? ⟨b2, p2, none⟩ = some (.int .i64 x.client) ∧ X.cell? ⟨b2, p2 + 1, none⟩ = some (.string x.tag) ∧ X.cell? ⟨b2, p2 + 2, none⟩ = some (.string x.query) ∧ X.cell? ⟨b2, p2 + 3, none⟩ = some (.int .i64 x.page) ∧ X.cell? ⟨b2, p2 + 4, none⟩ = some (.int .i64 x.state) ∧ X.cell? ⟨b2, p2 + 5, none⟩ = some (ue) ∧ X.cell? ⟨b2, p2 + 6, none⟩ = some (.int .i64 x.cursor)) ∧ Below w.heap.size w X) := fun X h =>
          ⟨⟨(h.cell (by exact hlt)).trans c0, (h.cell (by exact hlt)).trans c1, (h.cell (by exact hlt)).trans c2, (h.cell (by exact hlt)).trans c3, (h.cell (by exact hlt)).trans c4, (h.cell (by exact hlt)).trans c5, (h.cell (by exact hlt)).trans c6⟩, ⟨(h.cell (by exact hlt2)).trans d0, (h.cell (by exact hlt2)).trans d1, (h.cell (by exact hlt2)).trans d2, (h.cell (by exact hlt2)).trans d3, (h.cell (by exact hlt2)).trans d4, (h.cell (by exact hlt2)).trans d5, (h.cell (by exact hlt2)).trans d6⟩, h⟩
        have HEL := hide hel
        have HEL2 := hide hel2
        obtain ⟨ae, ce, hfe⟩ : ∃ a c, ve = .slice a x.rows.length c := by obtain ⟨a, c, e, _⟩ := hel.form; exact ⟨a, c, e⟩
        obtain ⟨au, cu, hfu⟩ : ∃ a c, ue = .slice a x.rows.length c := by obtain ⟨a, c, e, _⟩ := hel2.form; exact ⟨a, c, e⟩
        subst hfe hfu
        have hi : (k : Int) < (xs.length : Int) := by omega
        have hi0 : (0 : Int) ≤ (k : Int) := by omega
        have HB := hide hb
        clear hc hc2 c0 c1 c2 c3 c4 c5 c6 d0 d1 d2 d3 d4 d5 d6 hel hel2 hxk hb
        go_wp2_with fail
        obtain ⟨D, hwd⟩ : ∃ D, wr.drew = D := ⟨_, rfl⟩
        have hbd0 : Below w.heap.size w wr.drew := bjoin (Below.refl _ _).drew HB.out
        have hD : Below w.heap.size w D := by rw [← hwd]; exact hbd0
        go_region_held3 (fun X => (X.cell? ⟨b, p, none⟩ = some (.int .i64 x.client) ∧ X.cell? ⟨b, p + 1, none⟩ = some (.string x.tag) ∧ X.cell? ⟨b, p + 2, none⟩ = some (.string x.query) ∧ X.cell? ⟨b, p + 3, none⟩ = some (.int .i64 x.page) ∧ X.cell? ⟨b, p + 4, none⟩ = some (.int .i64 x.state) ∧ X.cell? ⟨b, p + 5, none⟩ = some (.slice ae x.rows.length ce) ∧ X.cell? ⟨b, p + 6, none⟩ = some (.int .i64 x.cursor)) ∧ (X.cell? ⟨b2, p2, none⟩ = some (.int .i64 x.client) ∧ X.cell? ⟨b2, p2 + 1, none⟩ = some (.string x.tag) ∧ X.cell? ⟨b2, p2 + 2, none⟩ = some (.string x.query) ∧ X.cell? ⟨b2, p2 + 3, none⟩ = some (.int .i64 x.page) ∧ X.cell? ⟨b2, p2 + 4, none⟩ = some (.int .i64 x.state) ∧ X.cell? ⟨b2, p2 + 5, none⟩ = some (.slice au x.rows.length cu) ∧ X.cell? ⟨b2, p2 + 6, none⟩ = some (.int .i64 x.cursor)) ∧ Below w.heap.size w X)
          (first | with_reducible exact KS.out _ hbd0 | with_reducible exact KS.out _ hD | with_reducible exact KS.out _ hb9)
          (first | (go_at_call 47; refine (eqSess_any x (.slice ae x.rows.length ce) (.slice au x.rows.length cu) _ (At.kept kept_str HEL.out hD) (At.kept kept_str HEL2.out hD)).mono ?_; rintro e w2 ⟨rfl, hb2⟩; have hb9 : Below w.heap.size w w2 := bjoin hb2 hD))
        go_wp2_with fail
        go_roundw
        case rel => exact ⟨k + 1, by omega, by go_num, hb9⟩
        case measure => simp [intOf]; omega
      · go_wp2
        go_ret
        exact ⟨rfl, hb⟩
set_option maxHeartbeats 400000 in
theorem eqTbl_any (x : List Sess) (v u : Value) (w : World) {lo lo2 : Nat} (hv : SesssAt lo w v x) (hu : SesssAt lo2 w u x) :
    Calls Tryz.prog 6 #[.agg #[v], .agg #[u]] w fun e w' => e = .returned (.bool true) ∧ Below w.heap.size w w' := by
  have hb := ((Below.refl w.heap.size w).alloc (Nat.le_refl _) (Obj.cells #[v] 24)).alloc (by simp) (Obj.cells #[u] 24)
  have hv' := At.kept kept_sess hv hb
  have hu' := At.kept kept_sess hu hb
  go_enter Tryz.func6, Tryz.ntmps6
  go_wp2_with fail
  refine (eqSesss_any x v u _ hv' hu').mono ?_
  rintro e w' ⟨rfl, hb'⟩
  go_wp2_with fail
  go_ret
  exact ⟨rfl, hb.trans (hb'.mono (by simp; omega))⟩
end Go.Proofs.YtpmnepalchgcbaaGreatDoor.Msg
