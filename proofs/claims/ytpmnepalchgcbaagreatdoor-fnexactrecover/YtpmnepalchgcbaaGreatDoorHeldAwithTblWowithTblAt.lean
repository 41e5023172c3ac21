import Derived.Test.YtpmnepalchgcbaaGreatDoorTblOwnwithTblChgwithTblEq
import Derived.Test.YtpmnepalchgcbaaGreatDoorTblSzwithMarkTextwithMarkData
import Derived.Test.YtpmnepalchgcbaaGreatDoorRowsImplwithQryNumwithChgPure
import Derived.Deep.LoopGhost
namespace Go.Proofs.YtpmnepalchgcbaaGreatDoor.Msg
open Go.ChangeShapes Go.WideShapes Go.ChangeAt Go.RowKit
set_option linter.unusedVariables false
set_option linter.unusedSimpArgs false

/-! a table that a law holds -/
/-- an answer that the law holds: its box, and the table in memory of its own -/
def AHeld (B0 : Nat) (R : List Sess) (W0 : World) (B : Nat) (tv : Value) (X : World) : Prop :=
  Box X B 24 #[tv] ∧ (∃ ps, TE B0 X tv ps ∧ ps.map Prod.fst = R) ∧ Below B0 W0 X ∧ B0 ≤ B
theorem AHeld.late {B0 : Nat} {R : List Sess} {W0 W5 : World} {tv : Value} (ht : ∃ ps, TE B0 W5 tv ps ∧ ps.map Prod.fst = R) (hb : Below B0 W0 W5) (h0 : B0 ≤ W0.heap.size) :
    AHeld B0 R W0 W5.heap.size tv (W5.alloc (.cells #[tv] 24)) := by
  obtain ⟨ps, ht, he⟩ := ht
  have hb5 : Below W5.heap.size W5 (W5.alloc (.cells #[tv] 24)) := (Below.refl _ _).alloc (Nat.le_refl _) _
  have := hb.size
  exact ⟨Box.new _ _ _, ⟨ps, ht.below hb5, he⟩, hb.trans (hb5.mono (by omega)), by omega⟩
theorem AHeld.early {B0 : Nat} {R : List Sess} {W0 W5 : World} {B : Nat} {tv : Value} (hz : Box W5 B 24 #[.slice none 0 0]) (ht : ∃ ps, TE B0 W5 tv ps ∧ ps.map Prod.fst = R) (hb : Below B0 W0 W5) (hB : B0 ≤ B) :
    AHeld B0 R W0 B tv (W5.setCell ⟨B, 0, none⟩ tv) := by
  obtain ⟨ps, ht, he⟩ := ht
  exact ⟨by have := hz.set 0 tv; simpa using this, ⟨ps, ht.setBox hz tv, he⟩, hb.setCell (p := ⟨B, 0, none⟩) hB _, hB⟩
theorem AHeld.form {B0 : Nat} {R : List Sess} {W0 : World} {B : Nat} {tv : Value} {X : World} (h : AHeld B0 R W0 B tv X) : ∃ a c, tv = .slice a R.length c := by
  obtain ⟨_, ⟨ps, ht, he⟩, _⟩ := h
  obtain ⟨a, c, e, _⟩ := ht.form
  exact ⟨a, c, by rw [e, ← he, List.length_map]⟩
/-- an answer that is held stays so where its blocks are as they were -/
theorem AHeld.keep {B0 : Nat} {R : List Sess} {W0 : World} {B : Nat} {tv : Value} {X Y : World} (h : AHeld B0 R W0 B tv X) (hb : ∀ d, B0 ≤ d → d < X.heap.size → Y.heap[d]? = X.heap[d]?) (hB : Below B0 W0 Y) : AHeld B0 R W0 B tv Y := by
  obtain ⟨h1, ⟨ps, ht, he⟩, h3, h4⟩ := h
  exact ⟨h1.keep (hb B h4 h1.lt), ⟨ps, ht.keep fun d hd => hb d (ht.own hd).1 (ht.own hd).2, he⟩, hB, h4⟩
theorem AHeld.below {B0 : Nat} {R : List Sess} {W0 : World} {B : Nat} {tv : Value} {X Y : World} (h : AHeld B0 R W0 B tv X) (hb : Below X.heap.size X Y) : AHeld B0 R W0 B tv Y :=
  h.keep (fun d _ hd => hb.block d hd) (h.2.2.1.trans (hb.mono (Nat.le_trans h.2.2.2 (Nat.le_of_lt h.1.lt))))
theorem AHeld.sesss {B0 : Nat} {R : List Sess} {W0 : World} {B : Nat} {tv : Value} {X : World} (h : AHeld B0 R W0 B tv X) (hR : R.length ≤ 17) : SesssAt 0 X tv R := by
  obtain ⟨_, ⟨ps, ht, he⟩, _⟩ := h
  have hl : ps.length = R.length := by rw [← he, List.length_map]
  have := ht.sesss (by omega)
  rw [he] at this
  exact At.mono mono_sess this (Nat.zero_le _)
theorem AHeld.cell {B0 : Nat} {R : List Sess} {W0 : World} {B : Nat} {tv : Value} {X : World} (h : AHeld B0 R W0 B tv X) : X.cell? ⟨B, 0, none⟩ = some tv := h.1.cell 0 (by simp)
/-- it may be written -/
theorem AHeld.owned {B0 : Nat} {R : List Sess} {W0 : World} {B : Nat} {tv : Value} {X : World} (h : AHeld B0 R W0 B tv X) (hR : R.length ≤ 17) : ∃ bs, OSesss X tv R bs ∧ bs.Nodup ∧ (∀ b ∈ bs, B0 ≤ b ∧ b ≠ B) ∧ cTbl R ≤ 1700102 := by
  obtain ⟨hx, ⟨ps, ht, he⟩, _⟩ := h
  have hl : ps.length = R.length := by rw [← he, List.length_map]
  obtain ⟨bs, h1, h2, h3⟩ := ht.osesss (by omega)
  have h4 := cTbl_small ps fun p hp => (ht.els p hp).1
  rw [he] at h1 h4
  exact ⟨bs, h1, h2, fun b hb => ⟨(ht.own (h3 b hb)).1, fun e => by have h5 := h3 b hb; rw [e] at h5; exact ht.apart hx (by decide) (by decide) h5⟩, Nat.le_trans h4 (by omega)⟩
theorem box1 {W : World} {b : Nat} {t : TypeId} {x : Value} (h : Box W b t #[x]) {G : Prop} (k : Box W b t #[x] → W.cell? ⟨b, 0, none⟩ = some x ∧ W.frozen? ⟨b, 0, none⟩ = false → G) : G := k h ⟨h.cell 0 (by simp), h.frozen 0⟩
theorem box7 {W : World} {b : Nat} {t : TypeId} {y0 y1 y2 y3 y4 y5 y6 : Value} (h : Box W b t #[y0, y1, y2, y3, y4, y5, y6]) : W.cell? ⟨b, 0, none⟩ = some y0 ∧ W.cell? ⟨b, 1, none⟩ = some y1 ∧ W.cell? ⟨b, 2, none⟩ = some y2 ∧ W.cell? ⟨b, 3, none⟩ = some y3 ∧ W.cell? ⟨b, 4, none⟩ = some y4 ∧ W.cell? ⟨b, 5, none⟩ = some y5 ∧ W.cell? ⟨b, 6, none⟩ = some y6 :=
  ⟨h.cell 0 (by simp), h.cell 1 (by simp), h.cell 2 (by simp), h.cell 3 (by simp), h.cell 4 (by simp), h.cell 5 (by simp), h.cell 6 (by simp)⟩
theorem ssB {lo : Nat} {w w' : World} {v : Value} {xs : List Sess} (h : SesssAt lo w v xs) (hb : Below w.heap.size w w') : SesssAt lo w' v xs := At.kept kept_sess h hb
theorem stB {lo : Nat} {w w' : World} {v : Value} {xs : List ByteArray} (h : StrsAt lo w v xs) (hb : Below w.heap.size w w') : StrsAt lo w' v xs := At.kept kept_str h hb
theorem bjn {n : Nat} {w W c : World} (h2 : Below W.heap.size W c) (h1 : Below n w W) (hn : n ≤ w.heap.size) : Below n w c := h1.trans (h2.mono (Nat.le_trans hn h1.size))
end Go.Proofs.YtpmnepalchgcbaaGreatDoor.Msg

namespace Go.Proofs.YtpmnepalchgcbaaGreatDoor.Msg
open Go.ChangeShapes Go.WideShapes Go.ChangeAt Go.RowKit
set_option linter.unusedVariables false
set_option linter.unusedSimpArgs false

/-! l5Without -/
def woL {α : Type} (at_ : Nat) (xs : List α) (k : Nat) : List α := (xs.take k).eraseIdx at_
theorem woL_at {α : Type} (at_ : Nat) (xs : List α) : woL at_ xs (at_ + 1) = woL at_ xs at_ := by
  unfold woL
  by_cases h : at_ < xs.length
  · rw [List.take_succ_eq_append_getElem h, List.eraseIdx_append_of_length_le (by rw [List.length_take]; omega), List.eraseIdx_of_length_le (l := xs.take at_) (by rw [List.length_take]; omega)]
    have e : at_ - (xs.take at_).length = 0 := by rw [List.length_take]; omega
    rw [e]
    simp
  · rw [List.take_of_length_le (by omega), List.take_of_length_le (by omega)]
theorem woL_step {α : Type} (at_ : Nat) (xs : List α) (k : Nat) (h : k < xs.length) (hn : k ≠ at_) : woL at_ xs (k + 1) = woL at_ xs k ++ [xs[k]] := by
  unfold woL
  rw [List.take_succ_eq_append_getElem h]
  by_cases hlt : at_ < k
  · rw [List.eraseIdx_append_of_lt_length (by rw [List.length_take]; omega)]
  · rw [List.eraseIdx_append_of_length_le (by rw [List.length_take]; omega), List.eraseIdx_of_length_le (l := xs.take k) (by rw [List.length_take]; omega)]
    have e : 0 < at_ - (xs.take k).length := by rw [List.length_take]; omega
    rw [List.eraseIdx_of_length_le (l := [xs[k]]) (by simp; omega)]
theorem woL_all {α : Type} (at_ : Nat) (xs : List α) : woL at_ xs xs.length = xs.eraseIdx at_ := by unfold woL; rw [List.take_length]
theorem woL_len {α : Type} (at_ : Nat) (xs : List α) (k : Nat) : (woL at_ xs k).length ≤ k := by
  unfold woL
  have := List.length_eraseIdx_le (xs.take k) at_
  rw [List.length_take] at this
  omega
theorem woL_mem {α : Type} (at_ : Nat) (xs : List α) (k : Nat) : ∀ x ∈ woL at_ xs k, x ∈ xs.take k := fun x hx => List.mem_of_mem_eraseIdx hx
/-- two places, two blocks -/
theorem nd_apart {ps : List (Sess × Value)} (h : ((ps.map (·.2)).filterMap Value.ownBlock).Nodup) (k : Nat) (hk : k < ps.length) {b : Nat} (hb : ps[k].2.ownBlock = some b) : ∀ q ∈ ps.take k, q.2.ownBlock ≠ some b := fun q hq e => by
  have e1 : ps = ps.take k ++ ps[k] :: ps.drop (k + 1) := by rw [List.getElem_cons_drop, List.take_append_drop]
  rw [e1, List.map_append, List.filterMap_append] at h
  refine (List.nodup_append.1 h).2.2 b (List.mem_filterMap.2 ⟨q.2, List.mem_map.2 ⟨q, hq, rfl⟩, e⟩) b ?_ rfl
  exact List.mem_filterMap.2 ⟨ps[k].2, List.mem_map.2 ⟨ps[k], List.mem_cons_self .., rfl⟩, hb⟩
theorem wo_nd {ps : List (Sess × Value)} (h : ((ps.map (·.2)).filterMap Value.ownBlock).Nodup) (at_ k : Nat) : (((woL at_ ps k).map (·.2)).filterMap Value.ownBlock).Nodup :=
  h.sublist (((List.eraseIdx_sublist _ _).trans (List.take_sublist _ _)).map _ |>.filterMap _)
set_option maxRecDepth 100000 in
set_option maxHeartbeats 16000000 in
theorem without_any (v : Value) (ps : List (Sess × Value)) (at_ : Nat) (w : World) {base : Nat} (hT0 : TE base w v ps) (hbase : base ≤ w.heap.size) (hn : ps.length ≤ 1000) :
    Calls Tryz.prog 59 #[.agg #[v], .int .i64 (at_ : Int)] w fun e w' => ∃ u, e = .returned (.agg #[u]) ∧ TE base w' u (ps.eraseIdx at_) ∧ Below w.heap.size w w' := by
  have HT0 := hide hT0
  obtain ⟨a, cap, rfl, _⟩ := hT0.form
  obtain ⟨n, hnn⟩ : ∃ n, ps.length = n := ⟨_, rfl⟩
  have HN := hide hnn
  rw [hnn] at hn ⊢
  obtain ⟨x3, hx3⟩ : ∃ x, ((w.alloc (Obj.cells #[.slice a n cap] 24)).alloc (Obj.cells #[.slice none 0 0] 24)).alloc (Obj.cells #[.slice none 0 0] 24) = x := ⟨_, rfl⟩
  have HC3 : Hid (CT w (.slice a n cap) (.slice none 0 0) x3) := by
    rw [← hx3]
    refine ⟨((Box.new w _ _).alloc _).alloc _, ?_, ?_, ?_⟩
    · have := (Box.new (w.alloc (Obj.cells #[.slice a n cap] 24)) 24 #[.slice none 0 0]).alloc (Obj.cells #[.slice none 0 0] 24)
      rw [Deep.nblk_alloc] at this
      exact this
    · have := Box.new ((w.alloc (Obj.cells #[.slice a n cap] 24)).alloc (Obj.cells #[.slice none 0 0] 24)) 24 #[.slice none 0 0]
      rw [Deep.nblk_alloc, Deep.nblk_alloc] at this
      exact this
    · have h1 := (Below.refl w.heap.size w).alloc (Nat.le_refl _) (Obj.cells #[.slice a n cap] 24)
      have h2 := h1.alloc h1.size (Obj.cells #[.slice none 0 0] 24)
      exact h2.alloc h2.size _
  have HX3 := hide hx3
  clear hT0 hnn hx3
  go_enter Tryz.func59, Tryz.ntmps59
  go_wp2_with fail
  (try rw [HX3.out])
  go_loopg [6] n (fun q i wr => ∃ (k ko : Nat) (ao : Option Addr) (co : Nat), k ≤ n ∧ q = n - k ∧ i = .int .i64 (k : Int) ∧ (woL at_ ps k).length = ko ∧ CT w (.slice a n cap) (.slice ao ko co) wr ∧ FB tsC 7 51 (w.heap.size + 3) wr (.slice ao ko co) (woL at_ ps k))
  case atStart => exact ⟨0, 0, none, 0, Nat.zero_le _, rfl, rfl, by simp [woL], HC3.out, by simpa [woL] using FB.nil tsC 7 51 (w.heap.size + 3) x3⟩
  case round =>
    obtain ⟨k, ko, ao, co, hk, rfl, rfl, hko, hC, hT⟩ := hrel
    obtain ⟨Y, rfl⟩ : ∃ x, x = wr := ⟨_, rfl⟩
    have HC := hide hC
    have HT := hide hT
    have HKO := hide hko
    have hk3 : ko ≤ 1000 := by have := woL_len at_ ps k; omega
    have c0 : Y.cell? ⟨w.heap.size, 0, none⟩ = some (.slice a n cap) := hC.arg.cell 0 (by simp)
    clear hC hT hko
    by_cases hlt : k < n
    · have hki : (k : Int) < (n : Int) := by omega
      have hk0 : (0 : Int) ≤ (k : Int) := by omega
      have hkp : k < ps.length := by rw [HN.out]; exact hlt
      by_cases hkA : k = at_
      · subst hkA
        have HE2 := hide (woL_at k ps)
        go_wp2_with fail
        go_roundg (n - (k + 1))
        case measure => omega
        case rel => exact ⟨k + 1, ko, _, _, by omega, rfl, by go_num, by rw [HE2.out]; exact HKO.out, HC.out, by rw [HE2.out]; exact HT.out⟩
      · have hkAi : ¬ (k : Int) = (at_ : Int) := by omega
        have hkAb : ((k : Int) == (at_ : Int)) = false := by simpa using hkAi
        obtain ⟨⟨s, u⟩, hpk⟩ : ∃ p, ps[k] = p := ⟨_, rfl⟩
        have hF := (HT0.out.els ps[k] (List.getElem_mem hkp)).2
        rw [hpk] at hF
        dsimp only at hF
        obtain ⟨ar, cr, rfl, _⟩ := hF.form
        have HST : Hid (woL at_ ps (k + 1) = woL at_ ps k ++ [(s, .slice ar s.rows.length cr)]) := by show _ = _; rw [woL_step at_ ps k hkp hkA, hpk]
        obtain ⟨b, off, rfl⟩ : ∃ b off, a = some ⟨b, off, none⟩ := by
          obtain ⟨_, _, e, hc⟩ := At.form (HT0.out.sesss (by rw [HN.out]; omega))
          injection e with e _ _
          obtain ⟨b, off, e2, _⟩ := hc k (by rw [List.length_map]; exact hkp)
          exact ⟨b, off, by rw [e, e2]⟩
        obtain ⟨p, hp⟩ : ∃ p, off + k * 7 = p := ⟨_, rfl⟩
        obtain ⟨hbl, g0, g1, g2, g3, g4, g5, g6⟩ := HT0.out.cells (by rw [HN.out]; omega) k hkp
        rw [hpk, hp] at g0 g1 g2 g3 g4 g5 g6
        dsimp only at g0 g1 g2 g3 g4 g5 g6
        have KW : Hid (∀ U, Below w.heap.size w U → U.cell? ⟨b, p, none⟩ = some (.int .i64 s.client) ∧ U.cell? ⟨b, p + 1, none⟩ = some (.string s.tag) ∧ U.cell? ⟨b, p + 2, none⟩ = some (.string s.query) ∧ U.cell? ⟨b, p + 3, none⟩ = some (.int .i64 s.page) ∧ U.cell? ⟨b, p + 4, none⟩ = some (.int .i64 s.state) ∧ U.cell? ⟨b, p + 5, none⟩ = some (.slice ar s.rows.length cr) ∧ U.cell? ⟨b, p + 6, none⟩ = some (.int .i64 s.cursor)) := fun U h =>
          ⟨(h.cell (p := ⟨b, p, none⟩) hbl).trans g0, (h.cell (p := ⟨b, p + 1, none⟩) hbl).trans g1, (h.cell (p := ⟨b, p + 2, none⟩) hbl).trans g2, (h.cell (p := ⟨b, p + 3, none⟩) hbl).trans g3, (h.cell (p := ⟨b, p + 4, none⟩) hbl).trans g4, (h.cell (p := ⟨b, p + 5, none⟩) hbl).trans g5, (h.cell (p := ⟨b, p + 6, none⟩) hbl).trans g6⟩
        have KS : Hid (∀ U, CT w (.slice (some ⟨b, off, none⟩) n cap) (.slice ao ko co) U → (fun U : World => U.cell? ⟨w.heap.size + 2, 0, none⟩ = some (.slice ao ko co) ∧ U.cell? ⟨w.heap.size, 0, none⟩ = some (.slice (some ⟨b, off, none⟩) n cap) ∧ U.cell? ⟨b, p, none⟩ = some (.int .i64 s.client) ∧ U.cell? ⟨b, p + 1, none⟩ = some (.string s.tag) ∧ U.cell? ⟨b, p + 2, none⟩ = some (.string s.query) ∧ U.cell? ⟨b, p + 3, none⟩ = some (.int .i64 s.page) ∧ U.cell? ⟨b, p + 4, none⟩ = some (.int .i64 s.state) ∧ U.cell? ⟨b, p + 5, none⟩ = some (.slice ar s.rows.length cr) ∧ U.cell? ⟨b, p + 6, none⟩ = some (.int .i64 s.cursor)) U) := fun U h => ⟨h.out.cell 0 (by simp), h.arg.cell 0 (by simp), KW.out U h.bel⟩
        obtain ⟨D, hDe⟩ : ∃ D, Y.drew = D := ⟨_, rfl⟩
        have hD : Below Y.heap.size Y D := by rw [← hDe]; exact (Below.refl _ _).drew
        have hCD := HC.out.below hD
        have hTD := HT.out.below hD
        have hSd : (fun U : World => U.cell? ⟨w.heap.size + 2, 0, none⟩ = some (.slice ao ko co) ∧ U.cell? ⟨w.heap.size, 0, none⟩ = some (.slice (some ⟨b, off, none⟩) n cap) ∧ U.cell? ⟨b, p, none⟩ = some (.int .i64 s.client) ∧ U.cell? ⟨b, p + 1, none⟩ = some (.string s.tag) ∧ U.cell? ⟨b, p + 2, none⟩ = some (.string s.query) ∧ U.cell? ⟨b, p + 3, none⟩ = some (.int .i64 s.page) ∧ U.cell? ⟨b, p + 4, none⟩ = some (.int .i64 s.state) ∧ U.cell? ⟨b, p + 5, none⟩ = some (.slice ar s.rows.length cr) ∧ U.cell? ⟨b, p + 6, none⟩ = some (.int .i64 s.cursor)) D := KS.out D hCD
        obtain ⟨a8, c8, w8, hr8', hT8, ho8, hv8⟩ := row_more (C := tsC) (c := 7) (bytes := 88) (e := 51) Tryz.underlying22 info_Sess rfl (by decide) hTD (s, .slice ar s.rows.length cr) rfl (fun z hz => by
          have hz' : z = .int .i64 s.client ∨ z = .string s.tag ∨ z = .string s.query ∨ z = .int .i64 s.page ∨ z = .int .i64 s.state ∨ z = .slice ar s.rows.length cr ∨ z = .int .i64 s.cursor := by simpa [tsC] using hz
          rcases hz' with rfl | rfl | rfl | rfl | rfl | rfl | rfl <;> rfl) (by have := hCD.lt; omega) HKO.out (by omega) (by decide)
        have hr8 : (Builtin.append_ #[22, 22] 22 #[.slice ao ko co, .slice (some ⟨D.heap.size, 0, none⟩) 1 1]).run Tryz.prog (D.alloc (.cells #[.int .i64 s.client, .string s.tag, .string s.query, .int .i64 s.page, .int .i64 s.state, .slice ar s.rows.length cr, .int .i64 s.cursor] 51)) = .ok (.slice a8 (ko + 1) c8) w8 := hr8'
        have hCA := hCD.below ((Below.refl _ _).alloc (Nat.le_refl _) (Obj.cells #[.int .i64 s.client, .string s.tag, .string s.query, .int .i64 s.page, .int .i64 s.state, .slice ar s.rows.length cr, .int .i64 s.cursor] 51))
        have hC8 := hCD.only ho8 (fun b hb => (hTD.own b hb).1)
        have o0 : w8.cell? ⟨w.heap.size + 2, 0, none⟩ = some (.slice ao ko co) := hC8.out.cell 0 (by simp)
        have of : w8.frozen? ⟨w.heap.size + 2, 0, none⟩ = false := hC8.out.frozen 0
        have ol : w.heap.size + 2 < w8.heap.size := hC8.out.lt
        have HC9 := hide (hC8.set (.slice a8 (ko + 1) c8))
        have HT9 := hide (hT8.set1 (b := w.heap.size + 2) (o := 0) (by omega) (.slice a8 (ko + 1) c8))
        clear g0 g1 g2 g3 g4 g5 g6 hpk hkp ho8 hv8 hT8 hr8' hF
        go_upto_region 6 with fail
        refine wp_region_two (fun U : World => U.cell? ⟨w.heap.size + 2, 0, none⟩ = some (.slice ao ko co) ∧ U.cell? ⟨w.heap.size, 0, none⟩ = some (.slice (some ⟨b, off, none⟩) n cap) ∧ U.cell? ⟨b, p, none⟩ = some (.int .i64 s.client) ∧ U.cell? ⟨b, p + 1, none⟩ = some (.string s.tag) ∧ U.cell? ⟨b, p + 2, none⟩ = some (.string s.query) ∧ U.cell? ⟨b, p + 3, none⟩ = some (.int .i64 s.page) ∧ U.cell? ⟨b, p + 4, none⟩ = some (.int .i64 s.state) ∧ U.cell? ⟨b, p + 5, none⟩ = some (.slice ar s.rows.length cr) ∧ U.cell? ⟨b, p + 6, none⟩ = some (.int .i64 s.cursor)) 9 (by kernel_rfl) ?_
        rw [hDe]
        clear hDe
        refine wpTwo_take (i := 0) (some 18) (v := ?v0_6) rfl rfl (by kernel_rfl) (by kernel_rfl) (by kernel_rfl) (by kernel_rfl) (fun _ _ _ h => h) hSd (Or.inl ⟨by rfl, ?hy0_6⟩) ?rest0_6
        case hy0_6 => (intro w hSw; (try dsimp only at hSw); go_simp; try with_reducible rfl)
        try simp only [Act.put, List.setIfInBounds_toArray, List.set_cons_zero, List.set_cons_succ]
        refine wpTwo_take (i := 1) (some 19) (v := ?v1_6) rfl rfl (by kernel_rfl) (by kernel_rfl) (by kernel_rfl) (by kernel_rfl) (fun _ _ _ h => h) hSd (Or.inl ⟨by rfl, ?hy1_6⟩) ?rest1_6
        case hy1_6 => (intro w hSw; (try dsimp only at hSw); go_simp; try with_reducible rfl)
        try simp only [Act.put, List.setIfInBounds_toArray, List.set_cons_zero, List.set_cons_succ]
        refine wpTwo_take (i := 2) (some 20) (v := ?v2_6) rfl rfl (by kernel_rfl) (by kernel_rfl) (by kernel_rfl) (by kernel_rfl) (fun _ _ _ h => h) hSd (Or.inl ⟨by rfl, ?hy2_6⟩) ?rest2_6
        case hy2_6 => (intro w hSw; (try dsimp only at hSw); go_simp; try with_reducible rfl)
        try simp only [Act.put, List.setIfInBounds_toArray, List.set_cons_zero, List.set_cons_succ]
        refine wpTwo_take (i := 3) (some 21) (v := ?v3_6) rfl rfl (by kernel_rfl) (by kernel_rfl) (by kernel_rfl) (by kernel_rfl) (fun _ _ _ h => h) hSd (Or.inl ⟨by rfl, ?hy3_6⟩) ?rest3_6
        case hy3_6 => (intro w hSw; (try dsimp only at hSw); go_simp; try with_reducible rfl)
        try simp only [Act.put, List.setIfInBounds_toArray, List.set_cons_zero, List.set_cons_succ]
        refine wpTwo_take (i := 4) (some 22) (v := ?v4_6) rfl rfl (by kernel_rfl) (by kernel_rfl) (by kernel_rfl) (by kernel_rfl) (fun _ _ _ h => h) hSd (Or.inl ⟨by rfl, ?hy4_6⟩) ?rest4_6
        case hy4_6 => (intro w hSw; (try dsimp only at hSw); go_simp; try with_reducible rfl)
        try simp only [Act.put, List.setIfInBounds_toArray, List.set_cons_zero, List.set_cons_succ]
        refine wpTwo_take (i := 5) (some 23) (v := ?v5_6) rfl rfl (by kernel_rfl) (by kernel_rfl) (by kernel_rfl) (by kernel_rfl) (fun _ _ _ h => h) hSd (Or.inl ⟨by rfl, ?hy5_6⟩) ?rest5_6
        case hy5_6 => (intro w hSw; (try dsimp only at hSw); go_simp; try with_reducible rfl)
        try simp only [Act.put, List.setIfInBounds_toArray, List.set_cons_zero, List.set_cons_succ]
        refine wpTwo_take (i := 6) (some 24) (v := ?v6_6) rfl rfl (by kernel_rfl) (by kernel_rfl) (by kernel_rfl) (by kernel_rfl) (fun _ _ _ h => h) hSd (Or.inl ⟨by rfl, ?hy6_6⟩) ?rest6_6
        case hy6_6 => (intro w hSw; (try dsimp only at hSw); go_simp; try with_reducible rfl)
        try simp only [Act.put, List.setIfInBounds_toArray, List.set_cons_zero, List.set_cons_succ]
        refine wpTwo_one (j := 7) (by kernel_rfl) rfl (fun K hK => ?_)
        go_simp
        refine hK.out _ _ (fun _ => KS.out _ hCA) ?_
        clear hK K
        try simp only [Act.put, List.setIfInBounds_toArray, List.set_cons_zero, List.set_cons_succ]
        refine wpTwo_one (j := 8) (by kernel_rfl) rfl (fun K hK => ?_)
        refine step_app rfl _ _ 22 rfl hr8 (by first | rfl | simp [Act.eval, Act.put]) (by first | rfl | simp [Act.eval, Act.put]) ?_
        show K (Act.put _ (some 26) _) _
        refine hK.out _ _ (fun _ => KS.out _ hC8) ?_
        clear hK K
        try simp only [Act.put, List.setIfInBounds_toArray, List.set_cons_zero, List.set_cons_succ]
        refine wpTwo_one (j := 9) (by kernel_rfl) rfl (fun K hK => ?_)
        go_simp
        refine hK.out _ _ (fun h => absurd h (by decide)) ?_
        clear hK K
        refine wpTwo_one (j := 10) (by kernel_rfl) rfl (fun K hK => ?_)
        go_simp
        refine hK.out _ _ (fun h => absurd h (by decide)) ?_
        clear hK K
        refine wpTwo_done (by kernel_rfl) ?_ _
        clear hSd hCD hTD hCA hC8 hr8 o0 of ol hD
        go_wp2_with fail
        go_roundg (n - (k + 1))
        case measure => omega
        case rel => exact ⟨k + 1, ko + 1, _, _, by omega, rfl, by go_num, by rw [HST.out, List.length_append, HKO.out]; rfl, HC9.out, by rw [HST.out]; exact HT9.out⟩
    · have hki : ¬ (k : Int) < (n : Int) := by omega
      obtain rfl : k = n := by omega
      have HTE : Hid (∀ x, TE base (Y.setCell ⟨w.heap.size + 1, 0, none⟩ x) (.slice ao ko co) (ps.eraseIdx at_)) := fun x => by
        have hb := HC.out.bel.setCell (p := ⟨w.heap.size + 1, 0, none⟩) (Nat.le_succ _) x
        have e1 : woL at_ ps k = ps.eraseIdx at_ := by rw [← woL_all, HN.out]
        have hr := (HT.out.set1 (b := w.heap.size + 1) (o := 0) (by omega) x).low (base' := base) (by omega)
        have hnd := wo_nd HT0.out.nd at_ k
        rw [e1] at hr hnd
        exact ⟨hr, fun p hp => by
          have := HT0.out.els p (List.mem_of_mem_eraseIdx hp)
          exact ⟨this.1, this.2.below hb⟩, hnd⟩
      have o0 : Y.cell? ⟨w.heap.size + 2, 0, none⟩ = some (.slice ao ko co) := HC.out.out.cell 0 (by simp)
      have r0 : Y.cell? ⟨w.heap.size + 1, 0, none⟩ = some (.slice none 0 0) := HC.out.res.cell 0 (by simp)
      have rf : Y.frozen? ⟨w.heap.size + 1, 0, none⟩ = false := HC.out.res.frozen 0
      have rl : w.heap.size + 1 < Y.heap.size := HC.out.res.lt
      go_wp2_with fail
      exact bodyPost_ret (v := .agg #[.slice ao ko co]) (by simp [results, Tryz.results59, go_sem, r0, rl]) rfl ⟨_, rfl, HTE.out _, HC.out.bel.setCell (p := ⟨w.heap.size + 1, 0, none⟩) (Nat.le_succ _) _⟩
end Go.Proofs.YtpmnepalchgcbaaGreatDoor.Msg

namespace Go.Proofs.YtpmnepalchgcbaaGreatDoor.Msg
open Go.ChangeShapes Go.WideShapes Go.ChangeAt Go.RowKit
set_option linter.unusedVariables false
set_option linter.unusedSimpArgs false

/-- a session of this client with this tag -/
def keyB (c : Int) (t : ByteArray) (x : Sess) : Bool := decide (x.client = c) && (x.tag.toList == t.toList)
def liveB (s : Int) : Bool := decide (s = 1) || decide (s = 2)
/-- the place of a session, -1 if there is none -/
def placeOf (xs : List Sess) (c : Int) (t : ByteArray) : Int := match xs.findIdx? (keyB c t) with
  | some i => (i : Int)
  | none => -1
theorem place_hit {xs : List Sess} {c : Int} {t : ByteArray} {k : Nat} (h : k < xs.length) (h1 : ∀ i (hi : i < k), keyB c t (xs[i]'(by omega)) = false) (h2 : keyB c t xs[k] = true) : placeOf xs c t = (k : Int) := by
  unfold placeOf
  have : xs.findIdx? (keyB c t) = some k := by
    rw [List.findIdx?_eq_some_iff_getElem]
    exact ⟨h, h2, fun j hj => by have := h1 j hj; simp [this]⟩
  rw [this]
theorem place_none {xs : List Sess} {c : Int} {t : ByteArray} (h1 : ∀ i (hi : i < xs.length), keyB c t xs[i] = false) : placeOf xs c t = -1 := by
  unfold placeOf
  have : xs.findIdx? (keyB c t) = none := by
    rw [List.findIdx?_eq_none_iff]
    intro x hx
    obtain ⟨i, hi, rfl⟩ := List.getElem_of_mem hx
    exact h1 i hi
  rw [this]

set_option maxHeartbeats 400000 in
theorem l5Live_any (s : Int) (w : World) :
    Calls Tryz.prog 31 #[.int .i64 s] w fun e w' => e = .returned (.bool (liveB s)) ∧ w' = w := by
  by_cases h1 : s = 1
  · subst h1
    go_enter Tryz.func31, Tryz.ntmps31
    go_wp2_with fail
    go_ret
    exact ⟨rfl, rfl⟩
  · have h1b : (s == 1) = false := by simpa using h1
    have HX : Hid (liveB s = decide (s = 2)) := by show _ = _; unfold liveB; rw [decide_eq_false h1]; rfl
    by_cases h2 : s = 2
    · subst h2
      go_enter Tryz.func31, Tryz.ntmps31
      go_wp2_with fail
      go_ret
      exact ⟨rfl, rfl⟩
    · have h2b : (s == 2) = false := by simpa using h2
      have HX2 : Hid (liveB s = false) := by show _ = _; rw [HX.out, decide_eq_false h2]
      go_enter Tryz.func31, Tryz.ntmps31
      go_wp2_with fail
      go_ret
      exact ⟨ret_bool HX2.out.symm, rfl⟩

set_option maxHeartbeats 1000000 in
theorem l5At_any (xs : List Sess) (v : Value) (c : Int) (t : ByteArray) (w : World) {lo : Nat} (hv : SesssAt lo w v xs) :
    Calls Tryz.prog 30 #[.agg #[v], .int .i64 c, .string t] w fun e w' => e = .returned (.int .i64 (placeOf xs c t)) ∧ Below w.heap.size w w' := by
  have hl := hv.1
  have hb := (Below.refl w.heap.size w).alloc (Nat.le_refl _) (Obj.cells #[v] 24)
  obtain ⟨a, cap, hf, hc⟩ := (At.kept kept_sess hv hb).form
  subst hf
  obtain ⟨W, hW⟩ : ∃ W, w.alloc (Obj.cells #[.slice a xs.length cap] 24) = W := ⟨_, rfl⟩
  have d0 : W.cell? ⟨w.heap.size, 0, none⟩ = some (.slice a xs.length cap) := by rw [← hW]; simp
  rw [hW] at hb hc
  have HC := hide hc
  have HB := hide hb
  have HW := hide hW
  clear hc hb hv hW
  go_enter Tryz.func30, Tryz.ntmps30
  go_wp2_with fail
  rw [HW.out]
  go_loopg [7] xs.length (fun q i wr => ∃ k : Nat, k ≤ xs.length ∧ q = xs.length - k ∧ i = .int .i64 (k : Int) ∧ (∀ j (hj : j < xs.length), j < k → keyB c t xs[j] = false) ∧ wr = W)
  case atStart => exact ⟨0, Nat.zero_le _, rfl, rfl, fun j _ h => absurd h (by omega), rfl⟩
  case round =>
    obtain ⟨k, hk, rfl, rfl, hno, rfl⟩ := hrel
    have HNO := hide hno
    clear hno
    by_cases hlt : k < xs.length
    · have hki : (k : Int) < (xs.length : Int) := by omega
      obtain ⟨b, off, rfl, _, hbl, c0, c1, _⟩ := HC.out k hlt
      have HH := hide (fun h2 => place_hit (c := c) (t := t) hlt (fun i hi => HNO.out i (by omega) hi) h2)
      have HN : Hid (keyB c t xs[k] = false → ∀ j (hj : j < xs.length), j < k + 1 → keyB c t xs[j] = false) := fun h j hj hjk => by
        by_cases e : j = k
        · subst e; exact h
        · exact HNO.out j hj (by omega)
      have HK : Hid (keyB c t xs[k] = (decide (xs[k].client = c) && (xs[k].tag.toList == t.toList))) := rfl
      obtain ⟨x, hx⟩ : ∃ x, xs[k] = x := ⟨_, rfl⟩
      rw [hx] at c0 c1 HH HN HK
      clear hx
      obtain ⟨p, hp⟩ : ∃ p, off + k * 7 = p := ⟨_, rfl⟩
      rw [hp] at c0 c1
      by_cases e1 : x.client = c
      · have e1b : (x.client == c) = true := by simpa using e1
        cases e2 : (x.tag.toList == t.toList)
        · have HF := hide (HN.out (by rw [HK.out, e2, Bool.and_false]))
          go_wp2_with fail
          go_roundg (xs.length - (k + 1))
          case measure => omega
          case rel => exact ⟨k + 1, by omega, rfl, by go_num, HF.out, rfl⟩
        · have HF := hide (HH.out (by rw [HK.out, e2, decide_eq_true e1]; rfl))
          go_wp2_with fail
          go_ret
          exact ⟨ret_int HF.out.symm, HB.out⟩
      · have e1b : (x.client == c) = false := by simpa using e1
        have HF := hide (HN.out (by rw [HK.out, decide_eq_false e1, Bool.false_and]))
        go_wp2_with fail
        go_roundg (xs.length - (k + 1))
        case measure => omega
        case rel => exact ⟨k + 1, by omega, rfl, by go_num, HF.out, rfl⟩
    · obtain rfl : k = xs.length := by omega
      have hki : ¬ (xs.length : Int) < (xs.length : Int) := by omega
      have HF := hide (place_none (c := c) (t := t) (fun i hi => HNO.out i hi hi))
      go_wp2_with fail
      go_ret
      exact ⟨ret_int HF.out.symm, HB.out⟩
end Go.Proofs.YtpmnepalchgcbaaGreatDoor.Msg
