import Derived.Test.YtaalkjbkmkjkpaaChgLawwithMsgSz3
import Derived.Test.YtaalkjbkmkjkpaaTblTo2withTblToO
import Derived.Test.YtaalkjbkmkjkpaaHeldTblwithFlatApp
import Derived.Test.YtaalkjbkmkjkpaaTblCopyTwithTblOwn
namespace Go.Proofs.Ytaalkjbkmkjkpaa.Msg
open Go.ChangeShapes Go.WideShapes Go.ChangeAt Go.RowKit
set_option linter.unusedVariables false
set_option linter.unusedSimpArgs false

/-! the laws' own functions over changes: with any measure left, and what they make is owned -/
set_option maxHeartbeats 2000000 in
theorem szChgL (c : Chg) (v : Value) (left : Int) (w : World) (h0 : 0 ≤ left) (h9 : left ≤ 1048576) {lo : Nat} (h1 : c.tag.size ≤ 9223372036854775807) (h2 : c.query.size ≤ 9223372036854775807) (hv : StrsAt lo w v c.rows) :
    Calls Try.prog 5 #[chgV c v, .int .i64 left] w fun e w' => e = .returned (.int .i64 (rest left (chgSz c))) ∧ Below w.heap.size w w' := by
  obtain ⟨kind, client, tag, query, page, rows, n⟩ := c
  simp only at h1 h2 hv
  obtain ⟨a, cap, hf, _⟩ := hv.form
  subst hf
  show Calls Try.prog 5 #[.agg #[.int .i64 kind, .int .i64 client, .string tag, .string query, .int .i64 page, .slice a rows.length cap, .int .i64 n], .int .i64 left] w _
  have HB := hide ((Below.refl w.heap.size w).alloc (Nat.le_refl _) (Obj.cells #[.int .i64 kind, .int .i64 client, .string tag, .string query, .int .i64 page, .slice a rows.length cap, .int .i64 n] 27))
  have HSS := hide (fun W hW l k0 k1 => szStrs_any rows (.slice a rows.length cap) l W k0 k1 (At.kept kept_str hv (w' := W) hW))
  have HS : Hid (chgSz ⟨kind, client, tag, query, page, rows, n⟩ = tag.size + query.size + repSz rows) := rfl
  clear hv
  by_cases a1 : left - tag.size < 0
  · have HX := hide (show rest left (chgSz ⟨kind, client, tag, query, page, rows, n⟩) = -1 from rest_no (by rw [HS.out]; omega))
    go_enter Try.func5, Try.ntmps5
    go_wp2_with fail
    go_ret
    exact ⟨ret_int HX.out.symm, HB.out⟩
  by_cases a2 : left - tag.size - query.size < 0
  · have HX := hide (show rest left (chgSz ⟨kind, client, tag, query, page, rows, n⟩) = -1 from rest_no (by rw [HS.out]; omega))
    go_enter Try.func5, Try.ntmps5
    go_wp2_with fail
    go_ret
    exact ⟨ret_int HX.out.symm, HB.out⟩
  have HS2 := hide (HSS.out _ HB.out (left - tag.size - query.size) (by omega) (by omega))
  by_cases a3 : ((repSz rows : Nat) : Int) ≤ left - tag.size - query.size
  · have HX := hide (show rest left (chgSz ⟨kind, client, tag, query, page, rows, n⟩) = left - tag.size - query.size - repSz rows by rw [rest_yes (by rw [HS.out]; omega), HS.out]; omega)
    rw [rest_yes a3] at HS2
    have hnn : ¬ left - tag.size - query.size - (repSz rows : Nat) < 0 := by omega
    go_enter Try.func5, Try.ntmps5
    go_wp2_with fail
    refine HS2.out.mono ?_
    rintro e w4 ⟨rfl, rfl⟩
    go_wp2_with fail
    go_ret
    exact ⟨ret_int HX.out.symm, HB.out⟩
  · have HX := hide (show rest left (chgSz ⟨kind, client, tag, query, page, rows, n⟩) = -1 from rest_no (by rw [HS.out]; omega))
    rw [rest_no (by omega)] at HS2
    go_enter Try.func5, Try.ntmps5
    go_wp2_with fail
    refine HS2.out.mono ?_
    rintro e w4 ⟨rfl, rfl⟩
    go_wp2_with fail
    go_ret
    exact ⟨ret_int HX.out.symm, HB.out⟩
set_option maxHeartbeats 2000000 in
theorem toChgO (c : Chg) (v : Value) (w : World) {lo : Nat} (hn : c.rows.length ≤ 1048576) (hv : StrsAt lo w v c.rows) :
    Calls Try.prog 8 #[chgV c v] w fun e w' => ∃ B, e = .returned (chgV c (.slice (some ⟨B, 0, none⟩) c.rows.length c.rows.length)) ∧ OStrs w' (.slice (some ⟨B, 0, none⟩) c.rows.length c.rows.length) c.rows [B] ∧ w.heap.size ≤ B ∧ Below w.heap.size w w' := by
  obtain ⟨kind, client, tag, query, page, rows, n⟩ := c
  simp only at hn hv
  obtain ⟨a, cap, hf, _⟩ := hv.form
  subst hf
  show Calls Try.prog 8 #[.agg #[.int .i64 kind, .int .i64 client, .string tag, .string query, .int .i64 page, .slice a rows.length cap, .int .i64 n]] w _
  have HB0 := hide ((((Below.refl w.heap.size w).alloc (Nat.le_refl _) (Obj.cells #[.int .i64 kind, .int .i64 client, .string tag, .string query, .int .i64 page, .slice a rows.length cap, .int .i64 n] 27)).alloc (by simp) (Obj.cells #[.int .i64 0, .int .i64 0, .string ⟨#[]⟩, .string ⟨#[]⟩, .int .i64 0, .slice none 0 0, .int .i64 0] 36)).alloc (by simp; omega) (Obj.cells #[.int .i64 kind, .int .i64 client, .string tag, .string query, .int .i64 page, .slice none 0 0, .int .i64 0] 36))
  have HTO := hide (fun W hW => toStrsO_any rows (.slice a rows.length cap) W hn (At.kept kept_str hv (w' := W) hW))
  clear hv
  go_enter Try.func8, Try.ntmps8
  go_wp2_with fail
  refine (HTO.out _ HB0.out).mono ?_
  rintro e w4 ⟨B, rfl, hu, hB, hb⟩
  obtain ⟨hc, hf⟩ := bcells hb
  have hz : w.heap.size + 2 < w4.heap.size := by have := hb.size; simp at this; omega
  have hB3 : w.heap.size + 3 ≤ B := by simp at hB; omega
  have HB3 := hide hB3
  have HU := hide hu
  have HB := hide hb
  clear hu hb hB hB3
  go_wp2_with fail
  refine bodyPost_ret (v := .agg #[.int .i64 kind, .int .i64 client, .string tag, .string query, .int .i64 page, .slice (some ⟨B, 0, none⟩) rows.length rows.length, .int .i64 n]) (by simp [results, Try.results8, go_sem, hc, hz]) rfl ⟨B, rfl, ?_, by have := HB3.out; omega, ?_⟩
  · refine OAt.kept keptO_str HU.out (by simp only [Deep.nblk_setCell]; exact Nat.le_refl _) fun d hd => ?_
    rw [List.mem_singleton.1 hd]
    have := HB3.out
    repeat (refine (Deep.blk_setCell_other _ _ _ _ (by dsimp only; omega)).trans ?_)
    rfl
  · have h0 := HB0.out.trans (HB.out.mono (by simp; omega))
    repeat refine Below.setCell ?_ (by simp; try omega) _
    exact h0

set_option maxHeartbeats 2000000 in
theorem markChgO (c : Chg) (v : Value) (bs : List Nat) (k : Nat) (w : World) (hk : 1 ≤ k) (hkb : k + cRep c.rows ≤ 4611686018427387904) (hv : OStrs w v c.rows bs) :
    Calls Try.prog 13 #[chgV c v, .int .i64 (k : Int)] w fun e w' => e = .returned (.int .i64 ((k + cRep c.rows : Nat) : Int)) ∧ Only bs w w' := by
  obtain ⟨kind, client, tag, query, page, rows, n⟩ := c
  simp only at hkb hv ⊢
  obtain ⟨a, cap, hf, _⟩ := (OAt.toAt toAt_str hv (lo := 0) (fun _ _ => Nat.zero_le _)).form
  subst hf
  show Calls Try.prog 13 #[.agg #[.int .i64 kind, .int .i64 client, .string tag, .string query, .int .i64 page, .slice a rows.length cap, .int .i64 n], .int .i64 (k : Int)] w _
  have hb0 := (Below.refl w.heap.size w).alloc (Nat.le_refl _) (Obj.cells #[.int .i64 kind, .int .i64 client, .string tag, .string query, .int .i64 page, .slice a rows.length cap, .int .i64 n] 36)
  have HM := hide (markStrs_any rows (.slice a rows.length cap) bs k _ hk hkb (OAt.kept keptO_str hv hb0.size fun d hd => hb0.block d (OAt.lt ltO_str hv d hd)))
  have HB0 := hide hb0
  clear hv hb0
  go_enter Try.func13, Try.ntmps13
  go_wp2_with fail
  refine HM.out.mono ?_
  rintro e w' ⟨rfl, ho, hO⟩
  have HO := hide ((Only.of_below (bs := bs) HB0.out).trans ho)
  clear ho hO
  go_wp2_with fail
  go_ret
  exact ⟨rfl, HO.out⟩

/-! a table in memory of its own may be written -/
theorem fb_rows {base : Nat} {w : World} {v : Value} {xs : List ByteArray} (h : FB tC 1 9 base w v xs) (hl : xs.length ≤ 9223372036854775807) (hz : ∀ s ∈ xs, s.size ≤ 9223372036854775807) : OStrs w v xs v.ownBlock.toList := by
  obtain ⟨bs, ⟨_, hF⟩, h2, _⟩ := FO.of_own (C := tC) (c := 1) (fun _ => rfl) h hl
  rcases hF with ⟨a, cap, rfl, h0, rfl⟩ | ⟨b, off, cap, rfl, hlt, rfl, hc⟩
  · have hx : xs = [] := List.eq_nil_of_length_eq_zero h0
    subst hx
    obtain ⟨_, ⟨e, _⟩ | ⟨g, cap', cur, e, hg, hs, hcap, hm, hsz, htk⟩⟩ := h
    · injection e with e1 _ _
      subst e1
      exact ⟨hl, .inl ⟨_, _, rfl, rfl, rfl⟩⟩
    · injection e with e1 _ _
      subst e1
      have hglt : g < w.heap.size := by rw [Array.getElem?_eq_some_iff] at hs; exact hs.1
      exact ⟨hl, .inr ⟨g, 0, cap, [], rfl, hglt, rfl, rfl, fun i hi => absurd hi (by simp)⟩⟩
  · have hb := (h2 b (by simp)).2
    rw [hb]
    refine ⟨hl, .inr ⟨b, off, cap, List.replicate xs.length [], rfl, hlt, by simp, by simp, fun i hi h3 => ?_⟩⟩
    have q := hc i (by omega)
    have e : (flat tC xs).getD i (.int .i64 0) = .string xs[i] := by
      have := flat_get (C := tC) (c := 1) (fun _ => rfl) xs i 0 hi (by omega)
      rw [Nat.mul_one, Nat.add_zero] at this
      rw [List.getD_eq_getElem?_getD, this]
      rfl
    simp only [e] at q
    exact ⟨by simpa using q.1, by simpa using q.2, hz _ (List.getElem_mem hi), by simp⟩
theorem flat_own (ps : List (Sess × Value)) : (ps.map fun p => p.2.ownBlock.toList).flatten = (ps.map (·.2)).filterMap Value.ownBlock := by
  induction ps with
  | nil => rfl
  | cons p t ih =>
    rw [List.map_cons, List.flatten_cons, ih, List.map_cons, List.filterMap_cons]
    cases p.2.ownBlock <;> rfl
theorem TE.osesss {base : Nat} {X : World} {v : Value} {ps : List (Sess × Value)} (h : TE base X v ps) (hz : ps.length ≤ 9223372036854775807) : ∃ bs, OSesss X v (ps.map Prod.fst) bs ∧ bs.Nodup ∧ ∀ b ∈ bs, TE.In v ps b := by
  obtain ⟨bs, ⟨_, hF⟩, h2, _⟩ := FO.of_own (C := tsC) (c := 7) tsC_len h.row hz
  have hlm : (ps.map Prod.fst).length = ps.length := List.length_map ..
  rcases hF with ⟨a, cap, rfl, h0, rfl⟩ | ⟨b, off, cap, rfl, hlt, rfl, hc⟩
  · have hx : ps = [] := List.eq_nil_of_length_eq_zero h0
    subst hx
    exact ⟨[], ⟨by simp, .inl ⟨_, _, rfl, rfl, rfl⟩⟩, by simp, by simp⟩
  · have hb := (h2 b (by simp)).2
    refine ⟨b :: (ps.map fun p => p.2.ownBlock.toList).flatten, ⟨by rw [hlm]; exact hz, .inr ⟨b, off, cap, ps.map fun p => p.2.ownBlock.toList, by rw [hlm], hlt, rfl, by rw [hlm, List.length_map], fun i hi h3 => ?_⟩⟩, ?_, fun d hd => ?_⟩
    · have hi1 : i < ps.length := by rw [hlm] at hi; exact hi
      obtain ⟨⟨z1, z2, z3, z4⟩, hR⟩ := h.els ps[i] (List.getElem_mem hi1)
      rw [List.getElem_map, List.getElem_map]
      refine ⟨ps[i].2, fun q hq => ?_, z1, z2, fb_rows hR (by omega) z4⟩
      have g := hc (i * 7 + q) (by omega)
      have e : (flat tsC ps).getD (i * 7 + q) (.int .i64 0) = sC ps[i].1 ps[i].2 q := by
        rw [List.getD_eq_getElem?_getD, flat_get (C := tsC) (c := 7) tsC_len ps i q hi1 hq]
        obtain rfl | rfl | rfl | rfl | rfl | rfl | rfl : q = 0 ∨ q = 1 ∨ q = 2 ∨ q = 3 ∨ q = 4 ∨ q = 5 ∨ q = 6 := by omega
        all_goals rfl
      simp only [e] at g
      rw [← Nat.add_assoc] at g
      exact g
    · rw [List.nodup_cons, flat_own]
      refine ⟨fun hm => ?_, h.nd⟩
      obtain ⟨u, hu, hub⟩ := List.mem_filterMap.1 hm
      obtain ⟨p, hp, rfl⟩ := List.mem_map.1 hu
      obtain ⟨c1, e1⟩ := h.row.blk hb
      obtain ⟨c2, e2⟩ := (h.els p hp).2.blk hub
      rw [e1] at e2
      injection e2 with e2
      injection e2 with _ e2 _
      exact absurd e2 (by decide)
    · rw [flat_own] at hd
      rcases List.mem_cons.1 hd with rfl | hd
      · exact .inl hb
      · obtain ⟨u, hu, hub⟩ := List.mem_filterMap.1 hd
        obtain ⟨p, hp, rfl⟩ := List.mem_map.1 hu
        exact .inr ⟨p, hp, hub⟩
theorem cTbl_small (ps : List (Sess × Value)) (h : ∀ p ∈ ps, SmS p.1) : cTbl (ps.map Prod.fst) ≤ ps.length * 100006 := by
  unfold cTbl sumOf
  induction ps with
  | nil => simp
  | cons p t ih =>
    have h1 := ih fun q hq => h q (List.mem_cons_of_mem _ hq)
    have h2 := (h p (List.mem_cons_self ..)).2.2.1
    simp only [List.map_cons, List.sum_cons, List.length_cons, cSess, cRep_len]
    omega
theorem cTbl_sz (xs : List Sess) : cTbl xs ≤ 6 * tblSz xs := by
  unfold cTbl tblSz lenSum sumOf
  induction xs with
  | nil => simp
  | cons x t ih =>
    have h1 : x.rows.length ≤ sessSz x := by unfold sessSz repSz lenSum; omega
    simp only [List.map_cons, List.sum_cons, List.length_cons, cSess, cRep_len]
    omega
theorem tbl_fits {xs : List Sess} (h : tblSz xs ≤ 1048576) : xs.length ≤ 1048576 ∧ ∀ i (h : i < xs.length), xs[i].rows.length ≤ 1048576 := by
  refine ⟨by unfold tblSz lenSum at h; omega, fun i hi => ?_⟩
  have h1 : xs[i].rows.length ≤ sessSz xs[i] := by unfold sessSz repSz lenSum; omega
  have h2 : sumOf sessSz (xs.take (i + 1)) = sumOf sessSz (xs.take i) + sessSz xs[i] := sum_take sessSz xs i hi
  have h3 := sum_le sessSz xs (i + 1)
  unfold tblSz lenSum at h
  omega
end Go.Proofs.Ytaalkjbkmkjkpaa.Msg

namespace Go.Proofs.Ytaalkjbkmkjkpaa.Msg
open Go.ChangeShapes Go.WideShapes Go.ChangeAt Go.RowKit
set_option linter.unusedVariables false
set_option linter.unusedSimpArgs false

/-! l5Without -/
def woL {α : Type} (at_ : Nat) (xs : List α) (k : Nat) : List α := (xs.take k).eraseIdx at_
theorem woL_at {α : Type} (at_ : Nat) (xs : List α) : woL at_ xs (at_ + 1) = woL at_ xs at_ := by
  unfold woL
  by_cases h : at_ < xs.length
  · rw [List.take_succ_eq_append_getElem h, List.eraseIdx_append_of_length_le (by rw [List.length_take]; omega), List.eraseIdx_of_length_le (l := xs.take at_) (by rw [List.length_take]; omega)]
    have e : at_ - (xs.take at_).length = 0 := by rw [List.length_take]; omega
    rw [e]
    simp
  · rw [List.take_of_length_le (by omega), List.take_of_length_le (by omega)]
theorem woL_step {α : Type} (at_ : Nat) (xs : List α) (k : Nat) (h : k < xs.length) (hn : k ≠ at_) : woL at_ xs (k + 1) = woL at_ xs k ++ [xs[k]] := by
  unfold woL
  rw [List.take_succ_eq_append_getElem h]
  by_cases hlt : at_ < k
  · rw [List.eraseIdx_append_of_lt_length (by rw [List.length_take]; omega)]
  · rw [List.eraseIdx_append_of_length_le (by rw [List.length_take]; omega), List.eraseIdx_of_length_le (l := xs.take k) (by rw [List.length_take]; omega)]
    have e : 0 < at_ - (xs.take k).length := by rw [List.length_take]; omega
    rw [List.eraseIdx_of_length_le (l := [xs[k]]) (by simp; omega)]
theorem woL_all {α : Type} (at_ : Nat) (xs : List α) : woL at_ xs xs.length = xs.eraseIdx at_ := by unfold woL; rw [List.take_length]
theorem woL_len {α : Type} (at_ : Nat) (xs : List α) (k : Nat) : (woL at_ xs k).length ≤ k := by
  unfold woL
  have := List.length_eraseIdx_le (xs.take k) at_
  rw [List.length_take] at this
  omega
theorem woL_mem {α : Type} (at_ : Nat) (xs : List α) (k : Nat) : ∀ x ∈ woL at_ xs k, x ∈ xs.take k := fun x hx => List.mem_of_mem_eraseIdx hx
/-- two places, two blocks -/
theorem nd_apart {ps : List (Sess × Value)} (h : ((ps.map (·.2)).filterMap Value.ownBlock).Nodup) (k : Nat) (hk : k < ps.length) {b : Nat} (hb : ps[k].2.ownBlock = some b) : ∀ q ∈ ps.take k, q.2.ownBlock ≠ some b := fun q hq e => by
  have e1 : ps = ps.take k ++ ps[k] :: ps.drop (k + 1) := by rw [List.getElem_cons_drop, List.take_append_drop]
  rw [e1, List.map_append, List.filterMap_append] at h
  refine (List.nodup_append.1 h).2.2 b (List.mem_filterMap.2 ⟨q.2, List.mem_map.2 ⟨q, hq, rfl⟩, e⟩) b ?_ rfl
  exact List.mem_filterMap.2 ⟨ps[k].2, List.mem_map.2 ⟨ps[k], List.mem_cons_self .., rfl⟩, hb⟩
theorem wo_nd {ps : List (Sess × Value)} (h : ((ps.map (·.2)).filterMap Value.ownBlock).Nodup) (at_ k : Nat) : (((woL at_ ps k).map (·.2)).filterMap Value.ownBlock).Nodup :=
  h.sublist (((List.eraseIdx_sublist _ _).trans (List.take_sublist _ _)).map _ |>.filterMap _)
set_option maxRecDepth 100000 in
set_option maxHeartbeats 16000000 in
theorem without_any (v : Value) (ps : List (Sess × Value)) (at_ : Nat) (w : World) {base : Nat} (hT0 : TE base w v ps) (hbase : base ≤ w.heap.size) (hn : ps.length ≤ 1000) :
    Calls Try.prog 40 #[.agg #[v], .int .i64 (at_ : Int)] w fun e w' => ∃ u, e = .returned (.agg #[u]) ∧ TE base w' u (ps.eraseIdx at_) ∧ Below w.heap.size w w' := by
  have HT0 := hide hT0
  obtain ⟨a, cap, rfl, _⟩ := hT0.form
  obtain ⟨n, hnn⟩ : ∃ n, ps.length = n := ⟨_, rfl⟩
  have HN := hide hnn
  rw [hnn] at hn ⊢
  obtain ⟨x3, hx3⟩ : ∃ x, ((w.alloc (Obj.cells #[.slice a n cap] 32)).alloc (Obj.cells #[.slice none 0 0] 32)).alloc (Obj.cells #[.slice none 0 0] 32) = x := ⟨_, rfl⟩
  have HC3 : Hid (CT w (.slice a n cap) (.slice none 0 0) x3) := by
    rw [← hx3]
    refine ⟨((Box.new w _ _).alloc _).alloc _, ?_, ?_, ?_⟩
    · have := (Box.new (w.alloc (Obj.cells #[.slice a n cap] 32)) 32 #[.slice none 0 0]).alloc (Obj.cells #[.slice none 0 0] 32)
      rw [Deep.nblk_alloc] at this
      exact this
    · have := Box.new ((w.alloc (Obj.cells #[.slice a n cap] 32)).alloc (Obj.cells #[.slice none 0 0] 32)) 32 #[.slice none 0 0]
      rw [Deep.nblk_alloc, Deep.nblk_alloc] at this
      exact this
    · have h1 := (Below.refl w.heap.size w).alloc (Nat.le_refl _) (Obj.cells #[.slice a n cap] 32)
      have h2 := h1.alloc h1.size (Obj.cells #[.slice none 0 0] 32)
      exact h2.alloc h2.size _
  have HX3 := hide hx3
  clear hT0 hnn hx3
  go_enter Try.func40, Try.ntmps40
  go_wp2_with fail
  (try rw [HX3.out])
  go_loopg [6] n (fun q i wr => ∃ (k ko : Nat) (ao : Option Addr) (co : Nat), k ≤ n ∧ q = n - k ∧ i = .int .i64 (k : Int) ∧ (woL at_ ps k).length = ko ∧ CT w (.slice a n cap) (.slice ao ko co) wr ∧ FB tsC 7 50 (w.heap.size + 3) wr (.slice ao ko co) (woL at_ ps k))
  case atStart => exact ⟨0, 0, none, 0, Nat.zero_le _, rfl, rfl, by simp [woL], HC3.out, by simpa [woL] using FB.nil tsC 7 50 (w.heap.size + 3) x3⟩
  case round =>
    obtain ⟨k, ko, ao, co, hk, rfl, rfl, hko, hC, hT⟩ := hrel
    obtain ⟨Y, rfl⟩ : ∃ x, x = wr := ⟨_, rfl⟩
    have HC := hide hC
    have HT := hide hT
    have HKO := hide hko
    have hk3 : ko ≤ 1000 := by have := woL_len at_ ps k; omega
    have c0 : Y.cell? ⟨w.heap.size, 0, none⟩ = some (.slice a n cap) := hC.arg.cell 0 (by simp)
    clear hC hT hko
    by_cases hlt : k < n
    · have hki : (k : Int) < (n : Int) := by omega
      have hk0 : (0 : Int) ≤ (k : Int) := by omega
      have hkp : k < ps.length := by rw [HN.out]; exact hlt
      by_cases hkA : k = at_
      · subst hkA
        have HE2 := hide (woL_at k ps)
        go_wp2_with fail
        go_roundg (n - (k + 1))
        case measure => omega
        case rel => exact ⟨k + 1, ko, _, _, by omega, rfl, by go_num, by rw [HE2.out]; exact HKO.out, HC.out, by rw [HE2.out]; exact HT.out⟩
      · have hkAi : ¬ (k : Int) = (at_ : Int) := by omega
        have hkAb : ((k : Int) == (at_ : Int)) = false := by simpa using hkAi
        obtain ⟨⟨s, u⟩, hpk⟩ : ∃ p, ps[k] = p := ⟨_, rfl⟩
        have hF := (HT0.out.els ps[k] (List.getElem_mem hkp)).2
        rw [hpk] at hF
        dsimp only at hF
        obtain ⟨ar, cr, rfl, _⟩ := hF.form
        have HST : Hid (woL at_ ps (k + 1) = woL at_ ps k ++ [(s, .slice ar s.rows.length cr)]) := by show _ = _; rw [woL_step at_ ps k hkp hkA, hpk]
        obtain ⟨b, off, rfl⟩ : ∃ b off, a = some ⟨b, off, none⟩ := by
          obtain ⟨_, _, e, hc⟩ := At.form (HT0.out.sesss (by rw [HN.out]; omega))
          injection e with e _ _
          obtain ⟨b, off, e2, _⟩ := hc k (by rw [List.length_map]; exact hkp)
          exact ⟨b, off, by rw [e, e2]⟩
        obtain ⟨p, hp⟩ : ∃ p, off + k * 7 = p := ⟨_, rfl⟩
        obtain ⟨hbl, g0, g1, g2, g3, g4, g5, g6⟩ := HT0.out.cells (by rw [HN.out]; omega) k hkp
        rw [hpk, hp] at g0 g1 g2 g3 g4 g5 g6
        dsimp only at g0 g1 g2 g3 g4 g5 g6
        have KW : Hid (∀ U, Below w.heap.size w U → U.cell? ⟨b, p, none⟩ = some (.int .i64 s.client) ∧ U.cell? ⟨b, p + 1, none⟩ = some (.string s.tag) ∧ U.cell? ⟨b, p + 2, none⟩ = some (.string s.query) ∧ U.cell? ⟨b, p + 3, none⟩ = some (.int .i64 s.page) ∧ U.cell? ⟨b, p + 4, none⟩ = some (.int .i64 s.state) ∧ U.cell? ⟨b, p + 5, none⟩ = some (.slice ar s.rows.length cr) ∧ U.cell? ⟨b, p + 6, none⟩ = some (.int .i64 s.cursor)) := fun U h =>
          ⟨(h.cell (p := ⟨b, p, none⟩) hbl).trans g0, (h.cell (p := ⟨b, p + 1, none⟩) hbl).trans g1, (h.cell (p := ⟨b, p + 2, none⟩) hbl).trans g2, (h.cell (p := ⟨b, p + 3, none⟩) hbl).trans g3, (h.cell (p := ⟨b, p + 4, none⟩) hbl).trans g4, (h.cell (p := ⟨b, p + 5, none⟩) hbl).trans g5, (h.cell (p := ⟨b, p + 6, none⟩) hbl).trans g6⟩
        have KS : Hid (∀ U, CT w (.slice (some ⟨b, off, none⟩) n cap) (.slice ao ko co) U → (fun U : World => U.cell? ⟨w.heap.size + 2, 0, none⟩ = some (.slice ao ko co) ∧ U.cell? ⟨w.heap.size, 0, none⟩ = some (.slice (some ⟨b, off, none⟩) n cap) ∧ U.cell? ⟨b, p, none⟩ = some (.int .i64 s.client) ∧ U.cell? ⟨b, p + 1, none⟩ = some (.string s.tag) ∧ U.cell? ⟨b, p + 2, none⟩ = some (.string s.query) ∧ U.cell? ⟨b, p + 3, none⟩ = some (.int .i64 s.page) ∧ U.cell? ⟨b, p + 4, none⟩ = some (.int .i64 s.state) ∧ U.cell? ⟨b, p + 5, none⟩ = some (.slice ar s.rows.length cr) ∧ U.cell? ⟨b, p + 6, none⟩ = some (.int .i64 s.cursor)) U) := fun U h => ⟨h.out.cell 0 (by simp), h.arg.cell 0 (by simp), KW.out U h.bel⟩
        obtain ⟨D, hDe⟩ : ∃ D, Y.drew = D := ⟨_, rfl⟩
        have hD : Below Y.heap.size Y D := by rw [← hDe]; exact (Below.refl _ _).drew
        have hCD := HC.out.below hD
        have hTD := HT.out.below hD
        have hSd : (fun U : World => U.cell? ⟨w.heap.size + 2, 0, none⟩ = some (.slice ao ko co) ∧ U.cell? ⟨w.heap.size, 0, none⟩ = some (.slice (some ⟨b, off, none⟩) n cap) ∧ U.cell? ⟨b, p, none⟩ = some (.int .i64 s.client) ∧ U.cell? ⟨b, p + 1, none⟩ = some (.string s.tag) ∧ U.cell? ⟨b, p + 2, none⟩ = some (.string s.query) ∧ U.cell? ⟨b, p + 3, none⟩ = some (.int .i64 s.page) ∧ U.cell? ⟨b, p + 4, none⟩ = some (.int .i64 s.state) ∧ U.cell? ⟨b, p + 5, none⟩ = some (.slice ar s.rows.length cr) ∧ U.cell? ⟨b, p + 6, none⟩ = some (.int .i64 s.cursor)) D := KS.out D hCD
        obtain ⟨a8, c8, w8, hr8', hT8, ho8, hv8⟩ := row_more (C := tsC) (c := 7) (bytes := 88) (e := 50) Try.underlying30 info_Sess rfl (by decide) hTD (s, .slice ar s.rows.length cr) rfl (fun z hz => by
          have hz' : z = .int .i64 s.client ∨ z = .string s.tag ∨ z = .string s.query ∨ z = .int .i64 s.page ∨ z = .int .i64 s.state ∨ z = .slice ar s.rows.length cr ∨ z = .int .i64 s.cursor := by simpa [tsC] using hz
          rcases hz' with rfl | rfl | rfl | rfl | rfl | rfl | rfl <;> rfl) (by have := hCD.lt; omega) HKO.out (by omega) (by decide)
        have hr8 : (Builtin.append_ #[30, 30] 30 #[.slice ao ko co, .slice (some ⟨D.heap.size, 0, none⟩) 1 1]).run Try.prog (D.alloc (.cells #[.int .i64 s.client, .string s.tag, .string s.query, .int .i64 s.page, .int .i64 s.state, .slice ar s.rows.length cr, .int .i64 s.cursor] 50)) = .ok (.slice a8 (ko + 1) c8) w8 := hr8'
        have hCA := hCD.below ((Below.refl _ _).alloc (Nat.le_refl _) (Obj.cells #[.int .i64 s.client, .string s.tag, .string s.query, .int .i64 s.page, .int .i64 s.state, .slice ar s.rows.length cr, .int .i64 s.cursor] 50))
        have hC8 := hCD.only ho8 (fun b hb => (hTD.own b hb).1)
        have o0 : w8.cell? ⟨w.heap.size + 2, 0, none⟩ = some (.slice ao ko co) := hC8.out.cell 0 (by simp)
        have of : w8.frozen? ⟨w.heap.size + 2, 0, none⟩ = false := hC8.out.frozen 0
        have ol : w.heap.size + 2 < w8.heap.size := hC8.out.lt
        have HC9 := hide (hC8.set (.slice a8 (ko + 1) c8))
        have HT9 := hide (hT8.set1 (b := w.heap.size + 2) (o := 0) (by omega) (.slice a8 (ko + 1) c8))
        clear g0 g1 g2 g3 g4 g5 g6 hpk hkp ho8 hv8 hT8 hr8' hF
        go_upto_region 6 with fail
        refine wp_region_two (fun U : World => U.cell? ⟨w.heap.size + 2, 0, none⟩ = some (.slice ao ko co) ∧ U.cell? ⟨w.heap.size, 0, none⟩ = some (.slice (some ⟨b, off, none⟩) n cap) ∧ U.cell? ⟨b, p, none⟩ = some (.int .i64 s.client) ∧ U.cell? ⟨b, p + 1, none⟩ = some (.string s.tag) ∧ U.cell? ⟨b, p + 2, none⟩ = some (.string s.query) ∧ U.cell? ⟨b, p + 3, none⟩ = some (.int .i64 s.page) ∧ U.cell? ⟨b, p + 4, none⟩ = some (.int .i64 s.state) ∧ U.cell? ⟨b, p + 5, none⟩ = some (.slice ar s.rows.length cr) ∧ U.cell? ⟨b, p + 6, none⟩ = some (.int .i64 s.cursor)) 9 (by kernel_rfl) ?_
        rw [hDe]
        clear hDe
        refine wpTwo_take (i := 0) (some 18) (v := ?v0_6) rfl rfl (by kernel_rfl) (by kernel_rfl) (by kernel_rfl) (by kernel_rfl) (fun _ _ _ h => h) hSd (Or.inl ⟨by rfl, ?hy0_6⟩) ?rest0_6
        case hy0_6 => (intro w hSw; (try dsimp only at hSw); go_simp; try with_reducible rfl)
        try simp only [Act.put, List.setIfInBounds_toArray, List.set_cons_zero, List.set_cons_succ]
        refine wpTwo_take (i := 1) (some 19) (v := ?v1_6) rfl rfl (by kernel_rfl) (by kernel_rfl) (by kernel_rfl) (by kernel_rfl) (fun _ _ _ h => h) hSd (Or.inl ⟨by rfl, ?hy1_6⟩) ?rest1_6
        case hy1_6 => (intro w hSw; (try dsimp only at hSw); go_simp; try with_reducible rfl)
        try simp only [Act.put, List.setIfInBounds_toArray, List.set_cons_zero, List.set_cons_succ]
        refine wpTwo_take (i := 2) (some 20) (v := ?v2_6) rfl rfl (by kernel_rfl) (by kernel_rfl) (by kernel_rfl) (by kernel_rfl) (fun _ _ _ h => h) hSd (Or.inl ⟨by rfl, ?hy2_6⟩) ?rest2_6
        case hy2_6 => (intro w hSw; (try dsimp only at hSw); go_simp; try with_reducible rfl)
        try simp only [Act.put, List.setIfInBounds_toArray, List.set_cons_zero, List.set_cons_succ]
        refine wpTwo_take (i := 3) (some 21) (v := ?v3_6) rfl rfl (by kernel_rfl) (by kernel_rfl) (by kernel_rfl) (by kernel_rfl) (fun _ _ _ h => h) hSd (Or.inl ⟨by rfl, ?hy3_6⟩) ?rest3_6
        case hy3_6 => (intro w hSw; (try dsimp only at hSw); go_simp; try with_reducible rfl)
        try simp only [Act.put, List.setIfInBounds_toArray, List.set_cons_zero, List.set_cons_succ]
        refine wpTwo_take (i := 4) (some 22) (v := ?v4_6) rfl rfl (by kernel_rfl) (by kernel_rfl) (by kernel_rfl) (by kernel_rfl) (fun _ _ _ h => h) hSd (Or.inl ⟨by rfl, ?hy4_6⟩) ?rest4_6
        case hy4_6 => (intro w hSw; (try dsimp only at hSw); go_simp; try with_reducible rfl)
        try simp only [Act.put, List.setIfInBounds_toArray, List.set_cons_zero, List.set_cons_succ]
        refine wpTwo_take (i := 5) (some 23) (v := ?v5_6) rfl rfl (by kernel_rfl) (by kernel_rfl) (by kernel_rfl) (by kernel_rfl) (fun _ _ _ h => h) hSd (Or.inl ⟨by rfl, ?hy5_6⟩) ?rest5_6
        case hy5_6 => (intro w hSw; (try dsimp only at hSw); go_simp; try with_reducible rfl)
        try simp only [Act.put, List.setIfInBounds_toArray, List.set_cons_zero, List.set_cons_succ]
        refine wpTwo_take (i := 6) (some 24) (v := ?v6_6) rfl rfl (by kernel_rfl) (by kernel_rfl) (by kernel_rfl) (by kernel_rfl) (fun _ _ _ h => h) hSd (Or.inl ⟨by rfl, ?hy6_6⟩) ?rest6_6
        case hy6_6 => (intro w hSw; (try dsimp only at hSw); go_simp; try with_reducible rfl)
        try simp only [Act.put, List.setIfInBounds_toArray, List.set_cons_zero, List.set_cons_succ]
        refine wpTwo_one (j := 7) (by kernel_rfl) rfl (fun K hK => ?_)
        go_simp
        refine hK.out _ _ (fun _ => KS.out _ hCA) ?_
        clear hK K
        try simp only [Act.put, List.setIfInBounds_toArray, List.set_cons_zero, List.set_cons_succ]
        refine wpTwo_one (j := 8) (by kernel_rfl) rfl (fun K hK => ?_)
        refine step_app rfl _ _ 30 rfl hr8 (by first | rfl | simp [Act.eval, Act.put]) (by first | rfl | simp [Act.eval, Act.put]) ?_
        show K (Act.put _ (some 26) _) _
        refine hK.out _ _ (fun _ => KS.out _ hC8) ?_
        clear hK K
        try simp only [Act.put, List.setIfInBounds_toArray, List.set_cons_zero, List.set_cons_succ]
        refine wpTwo_one (j := 9) (by kernel_rfl) rfl (fun K hK => ?_)
        go_simp
        refine hK.out _ _ (fun h => absurd h (by decide)) ?_
        clear hK K
        refine wpTwo_one (j := 10) (by kernel_rfl) rfl (fun K hK => ?_)
        go_simp
        refine hK.out _ _ (fun h => absurd h (by decide)) ?_
        clear hK K
        refine wpTwo_done (by kernel_rfl) ?_ _
        clear hSd hCD hTD hCA hC8 hr8 o0 of ol hD
        go_wp2_with fail
        go_roundg (n - (k + 1))
        case measure => omega
        case rel => exact ⟨k + 1, ko + 1, _, _, by omega, rfl, by go_num, by rw [HST.out, List.length_append, HKO.out]; rfl, HC9.out, by rw [HST.out]; exact HT9.out⟩
    · have hki : ¬ (k : Int) < (n : Int) := by omega
      obtain rfl : k = n := by omega
      have HTE : Hid (∀ x, TE base (Y.setCell ⟨w.heap.size + 1, 0, none⟩ x) (.slice ao ko co) (ps.eraseIdx at_)) := fun x => by
        have hb := HC.out.bel.setCell (p := ⟨w.heap.size + 1, 0, none⟩) (Nat.le_succ _) x
        have e1 : woL at_ ps k = ps.eraseIdx at_ := by rw [← woL_all, HN.out]
        have hr := (HT.out.set1 (b := w.heap.size + 1) (o := 0) (by omega) x).low (base' := base) (by omega)
        have hnd := wo_nd HT0.out.nd at_ k
        rw [e1] at hr hnd
        exact ⟨hr, fun p hp => by
          have := HT0.out.els p (List.mem_of_mem_eraseIdx hp)
          exact ⟨this.1, this.2.below hb⟩, hnd⟩
      have o0 : Y.cell? ⟨w.heap.size + 2, 0, none⟩ = some (.slice ao ko co) := HC.out.out.cell 0 (by simp)
      have r0 : Y.cell? ⟨w.heap.size + 1, 0, none⟩ = some (.slice none 0 0) := HC.out.res.cell 0 (by simp)
      have rf : Y.frozen? ⟨w.heap.size + 1, 0, none⟩ = false := HC.out.res.frozen 0
      have rl : w.heap.size + 1 < Y.heap.size := HC.out.res.lt
      go_wp2_with fail
      exact bodyPost_ret (v := .agg #[.slice ao ko co]) (by simp [results, Try.results40, go_sem, r0, rl]) rfl ⟨_, rfl, HTE.out _, HC.out.bel.setCell (p := ⟨w.heap.size + 1, 0, none⟩) (Nat.le_succ _) _⟩
end Go.Proofs.Ytaalkjbkmkjkpaa.Msg
