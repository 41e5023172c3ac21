import Derived.Test.YtpmnepalchgcbaaDoorMarkMsgwithMarkWantwithMarkTbl
import Derived.Test.YtpmnepalchgcbaaDoorChgLawwithMarkSegwithHeldMsg
import Derived.Test.YtpmnepalchgcbaaDoorStrsOwithTblToOwithTblEq
import Derived.Test.YtpmnepalchgcbaaDoorTblKitwithTblCopyTwithTblOwn
namespace Go.Proofs.YtpmnepalchgcbaaDoor.Msg
open Go.ChangeShapes Go.WideShapes Go.ChangeAt Go.RowKit
set_option linter.unusedVariables false
set_option linter.unusedSimpArgs false

end Go.Proofs.YtpmnepalchgcbaaDoor.Msg

namespace Go.Proofs.YtpmnepalchgcbaaDoor.Msg
open Go.ChangeShapes Go.WideShapes Go.ChangeAt Go.RowKit
set_option linter.unusedVariables false
set_option linter.unusedSimpArgs false

/-! a table in memory of its own may be written -/
theorem fb_rows {base : Nat} {w : World} {v : Value} {xs : List ByteArray} (h : FB tC 1 9 base w v xs) (hl : xs.length ≤ 9223372036854775807) (hz : ∀ s ∈ xs, s.size ≤ 9223372036854775807) : OStrs w v xs v.ownBlock.toList := by
  obtain ⟨bs, ⟨_, hF⟩, h2, _⟩ := FO.of_own (C := tC) (c := 1) (fun _ => rfl) h hl
  rcases hF with ⟨a, cap, rfl, h0, rfl⟩ | ⟨b, off, cap, rfl, hlt, rfl, hc⟩
  · have hx : xs = [] := List.eq_nil_of_length_eq_zero h0
    subst hx
    obtain ⟨_, ⟨e, _⟩ | ⟨g, cap', cur, e, hg, hs, hcap, hm, hsz, htk⟩⟩ := h
    · injection e with e1 _ _
      subst e1
      exact ⟨hl, .inl ⟨_, _, rfl, rfl, rfl⟩⟩
    · injection e with e1 _ _
      subst e1
      have hglt : g < w.heap.size := by rw [Array.getElem?_eq_some_iff] at hs; exact hs.1
      exact ⟨hl, .inr ⟨g, 0, cap, [], rfl, hglt, rfl, rfl, fun i hi => absurd hi (by simp)⟩⟩
  · have hb := (h2 b (by simp)).2
    rw [hb]
    refine ⟨hl, .inr ⟨b, off, cap, List.replicate xs.length [], rfl, hlt, by simp, by simp, fun i hi h3 => ?_⟩⟩
    have q := hc i (by omega)
    have e : (flat tC xs).getD i (.int .i64 0) = .string xs[i] := by
      have := flat_get (C := tC) (c := 1) (fun _ => rfl) xs i 0 hi (by omega)
      rw [Nat.mul_one, Nat.add_zero] at this
      rw [List.getD_eq_getElem?_getD, this]
      rfl
    simp only [e] at q
    exact ⟨by simpa using q.1, by simpa using q.2, hz _ (List.getElem_mem hi), by simp⟩
theorem flat_own (ps : List (Sess × Value)) : (ps.map fun p => p.2.ownBlock.toList).flatten = (ps.map (·.2)).filterMap Value.ownBlock := by
  induction ps with
  | nil => rfl
  | cons p t ih =>
    rw [List.map_cons, List.flatten_cons, ih, List.map_cons, List.filterMap_cons]
    cases p.2.ownBlock <;> rfl
theorem TE.osesss {base : Nat} {X : World} {v : Value} {ps : List (Sess × Value)} (h : TE base X v ps) (hz : ps.length ≤ 9223372036854775807) : ∃ bs, OSesss X v (ps.map Prod.fst) bs ∧ bs.Nodup ∧ ∀ b ∈ bs, TE.In v ps b := by
  obtain ⟨bs, ⟨_, hF⟩, h2, _⟩ := FO.of_own (C := tsC) (c := 7) tsC_len h.row hz
  have hlm : (ps.map Prod.fst).length = ps.length := List.length_map ..
  rcases hF with ⟨a, cap, rfl, h0, rfl⟩ | ⟨b, off, cap, rfl, hlt, rfl, hc⟩
  · have hx : ps = [] := List.eq_nil_of_length_eq_zero h0
    subst hx
    exact ⟨[], ⟨by simp, .inl ⟨_, _, rfl, rfl, rfl⟩⟩, by simp, by simp⟩
  · have hb := (h2 b (by simp)).2
    refine ⟨b :: (ps.map fun p => p.2.ownBlock.toList).flatten, ⟨by rw [hlm]; exact hz, .inr ⟨b, off, cap, ps.map fun p => p.2.ownBlock.toList, by rw [hlm], hlt, rfl, by rw [hlm, List.length_map], fun i hi h3 => ?_⟩⟩, ?_, fun d hd => ?_⟩
    · have hi1 : i < ps.length := by rw [hlm] at hi; exact hi
      obtain ⟨⟨z1, z2, z3, z4⟩, hR⟩ := h.els ps[i] (List.getElem_mem hi1)
      rw [List.getElem_map, List.getElem_map]
      refine ⟨ps[i].2, fun q hq => ?_, z1, z2, fb_rows hR (by omega) z4⟩
      have g := hc (i * 7 + q) (by omega)
      have e : (flat tsC ps).getD (i * 7 + q) (.int .i64 0) = sC ps[i].1 ps[i].2 q := by
        rw [List.getD_eq_getElem?_getD, flat_get (C := tsC) (c := 7) tsC_len ps i q hi1 hq]
        obtain rfl | rfl | rfl | rfl | rfl | rfl | rfl : q = 0 ∨ q = 1 ∨ q = 2 ∨ q = 3 ∨ q = 4 ∨ q = 5 ∨ q = 6 := by omega
        all_goals rfl
      simp only [e] at g
      rw [← Nat.add_assoc] at g
      exact g
    · rw [List.nodup_cons, flat_own]
      refine ⟨fun hm => ?_, h.nd⟩
      obtain ⟨u, hu, hub⟩ := List.mem_filterMap.1 hm
      obtain ⟨p, hp, rfl⟩ := List.mem_map.1 hu
      obtain ⟨c1, e1⟩ := h.row.blk hb
      obtain ⟨c2, e2⟩ := (h.els p hp).2.blk hub
      rw [e1] at e2
      injection e2 with e2
      injection e2 with _ e2 _
      exact absurd e2 (by decide)
    · rw [flat_own] at hd
      rcases List.mem_cons.1 hd with rfl | hd
      · exact .inl hb
      · obtain ⟨u, hu, hub⟩ := List.mem_filterMap.1 hd
        obtain ⟨p, hp, rfl⟩ := List.mem_map.1 hu
        exact .inr ⟨p, hp, hub⟩
theorem cTbl_small (ps : List (Sess × Value)) (h : ∀ p ∈ ps, SmS p.1) : cTbl (ps.map Prod.fst) ≤ ps.length * 100006 := by
  unfold cTbl sumOf
  induction ps with
  | nil => simp
  | cons p t ih =>
    have h1 := ih fun q hq => h q (List.mem_cons_of_mem _ hq)
    have h2 := (h p (List.mem_cons_self ..)).2.2.1
    simp only [List.map_cons, List.sum_cons, List.length_cons, cSess, cRep_len]
    omega
theorem cTbl_sz (xs : List Sess) : cTbl xs ≤ 6 * tblSz xs := by
  unfold cTbl tblSz lenSum sumOf
  induction xs with
  | nil => simp
  | cons x t ih =>
    have h1 : x.rows.length ≤ sessSz x := by unfold sessSz repSz lenSum; omega
    simp only [List.map_cons, List.sum_cons, List.length_cons, cSess, cRep_len]
    omega
theorem tbl_fits {xs : List Sess} (h : tblSz xs ≤ 1048576) : xs.length ≤ 1048576 ∧ ∀ i (h : i < xs.length), xs[i].rows.length ≤ 1048576 := by
  refine ⟨by unfold tblSz lenSum at h; omega, fun i hi => ?_⟩
  have h1 : xs[i].rows.length ≤ sessSz xs[i] := by unfold sessSz repSz lenSum; omega
  have h2 : sumOf sessSz (xs.take (i + 1)) = sumOf sessSz (xs.take i) + sessSz xs[i] := sum_take sessSz xs i hi
  have h3 := sum_le sessSz xs (i + 1)
  unfold tblSz lenSum at h
  omega
end Go.Proofs.YtpmnepalchgcbaaDoor.Msg
