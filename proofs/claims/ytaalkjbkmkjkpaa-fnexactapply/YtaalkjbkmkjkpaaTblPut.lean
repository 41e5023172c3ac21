import Derived.Test.YtaalkjbkmkjkpaaTblOpenPwithTblOpenS
namespace Go.Proofs.Ytaalkjbkmkjkpaa.Msg
open Go.ChangeShapes Go.WideShapes Go.ChangeAt Go.RowKit
set_option linter.unusedVariables false
set_option linter.unusedSimpArgs false

/-! a session of an owned table is written anew -/
def put7 (w : World) (g p : Nat) (s : Sess) (u : Value) : World := ((((((w.setCell ⟨g, p, none⟩ (.int .i64 s.client)).setCell ⟨g, p + 1, none⟩ (.string s.tag)).setCell ⟨g, p + 2, none⟩ (.string s.query)).setCell ⟨g, p + 3, none⟩ (.int .i64 s.page)).setCell ⟨g, p + 4, none⟩ (.int .i64 s.state)).setCell ⟨g, p + 5, none⟩ (u)).setCell ⟨g, p + 6, none⟩ (.int .i64 s.cursor)
theorem put7_only (w : World) (g p : Nat) (s : Sess) (u : Value) : Only [g] w (put7 w g p s u) := ((((((((Only.refl _ _).setCell (by simp) _).setCell (by simp) _).setCell (by simp) _).setCell (by simp) _).setCell (by simp) _).setCell (by simp) _).setCell (by simp) _)
theorem FB.put7 {base : Nat} {w : World} {g n cap : Nat} {ys : List (Sess × Value)} (h : FB tsC 7 50 base w (.slice (some ⟨g, 0, none⟩) n cap) ys) {i : Nat} (hi : i < ys.length) (s : Sess) (u : Value) {p : Nat} (hp : i * 7 = p) :
    FB tsC 7 50 base (put7 w g p s u) (.slice (some ⟨g, 0, none⟩) n cap) (ys.set i (s, u)) := by
  subst hp
  obtain ⟨hlen, ⟨e, h0⟩ | ⟨g', cap', cur, e, hg, hs, hcap, hm, hsz, htk⟩⟩ := h
  · cases e
  · injection e with e1 e2 e3
    injection e1 with e1
    injection e1 with e1 _ _
    subst e1 e3
    have hB : Box w g 50 cur := hs
    have h4 := (((((((hB.set (i * 7) (.int .i64 s.client)).set (i * 7 + 1) (.string s.tag)).set (i * 7 + 2) (.string s.query)).set (i * 7 + 3) (.int .i64 s.page)).set (i * 7 + 4) (.int .i64 s.state)).set (i * 7 + 5) u).set (i * 7 + 6) (.int .i64 s.cursor))
    refine ⟨by rw [flat_len tsC_len], .inr ⟨g, cap, _, by rw [List.length_set, ← e2], hg, h4, by rw [List.length_set]; exact hcap, hm, by simp [hsz], ?_⟩⟩
    rw [List.length_set]
    have hi4 : (i + 1) * 7 ≤ ys.length * 7 := Nat.mul_le_mul_right 7 hi
    apply List.ext_getElem?
    intro m
    by_cases hmn : m < ys.length * 7
    · have hq : m / 7 < ys.length := (Nat.div_lt_iff_lt_mul (by omega)).2 hmn
      have hr : m % 7 < 7 := Nat.mod_lt _ (by omega)
      have em : m / 7 * 7 + m % 7 = m := Nat.div_add_mod' m 7
      have hold := flat_get tsC_len ys (m / 7) (m % 7) hq hr
      rw [em, ← htk, List.getElem?_take, if_pos hmn, Array.getElem?_toList] at hold
      have hnew := flat_get tsC_len (ys.set i (s, u)) (m / 7) (m % 7) (by rw [List.length_set]; exact hq) hr
      rw [em] at hnew
      rw [hnew, List.getElem?_take, if_pos hmn, Array.getElem?_toList]
      have hms : m < cur.size := by rw [hsz]; omega
      simp only [Array.getElem?_setIfInBounds, Array.size_setIfInBounds]
      by_cases hmi : m / 7 = i
      · have e5 : (ys.set i (s, u))[m / 7]'(by rw [List.length_set]; exact hq) = (s, u) := by simp [hmi]
        simp only [e5]
        rcases (show m % 7 = 0 ∨ m % 7 = 1 ∨ m % 7 = 2 ∨ m % 7 = 3 ∨ m % 7 = 4 ∨ m % 7 = 5 ∨ m % 7 = 6 by omega) with h | h | h | h | h | h | h
        · have hm' : m = i * 7 := by omega
          simp [hm', tsC]
          omega
        · have hm' : m = i * 7 + 1 := by omega
          simp [hm', tsC, show (i * 7 + 1) % 7 = 1 by omega]
          omega
        · have hm' : m = i * 7 + 2 := by omega
          simp [hm', tsC, show (i * 7 + 2) % 7 = 2 by omega]
          omega
        · have hm' : m = i * 7 + 3 := by omega
          simp [hm', tsC, show (i * 7 + 3) % 7 = 3 by omega]
          omega
        · have hm' : m = i * 7 + 4 := by omega
          simp [hm', tsC, show (i * 7 + 4) % 7 = 4 by omega]
          omega
        · have hm' : m = i * 7 + 5 := by omega
          simp [hm', tsC, show (i * 7 + 5) % 7 = 5 by omega]
          omega
        · have hm' : m = i * 7 + 6 := by omega
          simp [hm', tsC, show (i * 7 + 6) % 7 = 6 by omega]
          omega
      · have e5 : (ys.set i (s, u))[m / 7]'(by rw [List.length_set]; exact hq) = ys[m / 7] := by rw [List.getElem_set_ne (Ne.symm hmi)]
        simp only [e5]
        rw [if_neg (by omega), if_neg (by omega), if_neg (by omega), if_neg (by omega), if_neg (by omega), if_neg (by omega), if_neg (by omega)]
        exact hold
    · rw [List.getElem?_eq_none (by simp; omega), List.getElem?_eq_none (by rw [flat_len tsC_len, List.length_set]; omega)]
theorem FB.off0 {α : Type} {C : α → List Value} {c : Nat} {e : TypeId} {base : Nat} {w : World} {b off n cap : Nat} {xs : List α} (h : FB C c e base w (.slice (some ⟨b, off, none⟩) n cap) xs) : off = 0 := by
  obtain ⟨_, ⟨e1, _⟩ | ⟨g, cap', cur, e1, _⟩⟩ := h
  · cases e1
  · injection e1 with e1 _ _
    injection e1 with e1
    injection e1 with _ e1 _
/-- nodup, and the place's own block -/
theorem nd_set {ps : List (Sess × Value)} (h : ((ps.map (·.2)).filterMap Value.ownBlock).Nodup) {i : Nat} (hi : i < ps.length) (p : Sess × Value) (hn : ∀ b, p.2.ownBlock = some b → ∀ j (hj : j < ps.length), j ≠ i → ps[j].2.ownBlock ≠ some b) : (((ps.set i p).map (·.2)).filterMap Value.ownBlock).Nodup := by
  have e1 : ps.set i p = ps.take i ++ p :: ps.drop (i + 1) := by rw [List.set_eq_take_append_cons_drop, if_pos hi]
  have e2 : ps = ps.take i ++ ps[i] :: ps.drop (i + 1) := by rw [List.getElem_cons_drop, List.take_append_drop]
  have ht : ∀ q ∈ ps.take i, ∃ j, ∃ hj : j < ps.length, j ≠ i ∧ ps[j] = q := fun q hq => by
    obtain ⟨j, hj, rfl⟩ := List.mem_iff_getElem.1 hq
    rw [List.length_take] at hj
    exact ⟨j, by omega, by omega, by rw [List.getElem_take]⟩
  have hd : ∀ q ∈ ps.drop (i + 1), ∃ j, ∃ hj : j < ps.length, j ≠ i ∧ ps[j] = q := fun q hq => by
    obtain ⟨j, hj, rfl⟩ := List.mem_iff_getElem.1 hq
    rw [List.length_drop] at hj
    exact ⟨i + 1 + j, by omega, by omega, by rw [List.getElem_drop]⟩
  rw [e2, List.map_append, List.filterMap_append, List.map_cons] at h
  rw [e1, List.map_append, List.filterMap_append, List.map_cons]
  obtain ⟨h1, h2, h3⟩ := List.nodup_append.1 h
  have h2' : (((ps.drop (i + 1)).map (·.2)).filterMap Value.ownBlock).Nodup := by
    rw [List.filterMap_cons] at h2
    split at h2
    · exact h2
    · exact (List.nodup_cons.1 h2).2
  have h3' : ∀ a ∈ ((ps.take i).map (·.2)).filterMap Value.ownBlock, ∀ b ∈ ((ps.drop (i + 1)).map (·.2)).filterMap Value.ownBlock, a ≠ b := fun a ha b hb => h3 a ha b (by
    rw [List.filterMap_cons]
    split
    · exact hb
    · exact List.mem_cons_of_mem _ hb)
  cases hp : p.2.ownBlock with
  | none =>
    rw [List.filterMap_cons_none hp]
    exact List.nodup_append.2 ⟨h1, h2', h3'⟩
  | some b =>
    rw [List.filterMap_cons_some hp]
    refine List.nodup_append.2 ⟨h1, List.nodup_cons.2 ⟨fun hm => ?_, h2'⟩, fun a ha c hc => ?_⟩
    · obtain ⟨x, hx, e⟩ := List.mem_filterMap.1 hm
      obtain ⟨q, hq, rfl⟩ := List.mem_map.1 hx
      obtain ⟨j, hj, hne, rfl⟩ := hd q hq
      exact hn b hp j hj hne e
    · rcases List.mem_cons.1 hc with rfl | hc
      · rintro rfl
        obtain ⟨x, hx, e⟩ := List.mem_filterMap.1 ha
        obtain ⟨q, hq, rfl⟩ := List.mem_map.1 hx
        obtain ⟨j, hj, hne, rfl⟩ := ht q hq
        exact hn _ hp j hj hne e
      · exact h3' a ha c hc
theorem nd_at {ps : List (Sess × Value)} (h : ((ps.map (·.2)).filterMap Value.ownBlock).Nodup) {i j : Nat} (hi : i < ps.length) (hj : j < ps.length) (hne : j ≠ i) {b : Nat} (hb : ps[i].2.ownBlock = some b) : ps[j].2.ownBlock ≠ some b := by
  intro e
  have key : ∀ (i j : Nat) (hi : i < ps.length) (hj : j < ps.length), j < i → ps[i].2.ownBlock = some b → ps[j].2.ownBlock = some b → False := fun i j hi hj hlt h1 h2 => by
    have e2 : ps = ps.take i ++ ps[i] :: ps.drop (i + 1) := by rw [List.getElem_cons_drop, List.take_append_drop]
    rw [e2, List.map_append, List.filterMap_append, List.map_cons, List.filterMap_cons_some h1] at h
    refine (List.nodup_append.1 h).2.2 b (List.mem_filterMap.2 ⟨ps[j].2, List.mem_map.2 ⟨ps[j], ?_, rfl⟩, h2⟩) b (List.mem_cons_self ..) rfl
    rw [List.mem_take_iff_getElem]
    exact ⟨j, by omega, rfl⟩
  rcases Nat.lt_or_ge j i with hlt | hge
  · exact key i j hi hj hlt hb e
  · exact key j i hj hi (by omega) e hb
/-- the session at a place is another: its rows lie in the old one's block or in a new one -/
theorem TE.put {base : Nat} {X Y : World} {g n cap : Nat} {ps : List (Sess × Value)} (h : TE base X (.slice (some ⟨g, 0, none⟩) n cap) ps) {i : Nat} (hi : i < ps.length) (s : Sess) (u : Value) (hs : SmS s) (hs0 : X.heap.size ≤ Y.heap.size)
    (hY : ∀ b, b < X.heap.size → ps[i].2.ownBlock ≠ some b → Y.heap[b]? = X.heap[b]?) (hF : FB tC 1 9 base Y u s.rows) (hu : ∀ b, u.ownBlock = some b → ps[i].2.ownBlock = some b ∨ X.heap.size ≤ b) {p : Nat} (hp : i * 7 = p) :
    TE base (Msg.put7 Y g p s u) (.slice (some ⟨g, 0, none⟩) n cap) (ps.set i (s, u)) := by
  have hg := h.row.own g (by simp [Value.ownBlock])
  have hgb := h.row.blk (b := g) (by simp [Value.ownBlock])
  have hng : ∀ p ∈ ps, p.2.ownBlock ≠ some g := fun p hp e => by
    obtain ⟨c1, e1⟩ := hgb
    obtain ⟨c2, e2⟩ := (h.els p hp).2.blk e
    rw [e1] at e2
    injection e2 with e2
    injection e2 with _ e2 _
    exact absurd e2 (by decide)
  have hrow : FB tsC 7 50 base Y (.slice (some ⟨g, 0, none⟩) n cap) ps := h.row.keep fun b hb => by
    have e : b = g := by simpa [Value.ownBlock, eq_comm] using hb
    rw [e]
    exact hY g hg.2 (hng _ (List.getElem_mem hi))
  have hput := put7_only Y g p s u
  have hug : u.ownBlock ≠ some g := fun e => by
    rcases hu g e with h1 | h1
    · exact hng _ (List.getElem_mem hi) h1
    · omega
  refine ⟨hrow.put7 hi s u hp, fun q hq => ?_, nd_set h.nd hi (s, u) fun b hb j hj hne e => ?_⟩
  · obtain ⟨j, hj, rfl⟩ := List.mem_iff_getElem.1 hq
    rw [List.length_set] at hj
    by_cases hji : j = i
    · subst hji
      rw [List.getElem_set_self]
      exact ⟨hs, hF.only hput fun b hb hm => hug (by rw [List.mem_singleton.1 hm] at hb; simpa using hb)⟩
    · rw [List.getElem_set_ne (Ne.symm hji)]
      have he := h.els ps[j] (List.getElem_mem hj)
      refine ⟨he.1, (he.2.keep fun b hb => hY b (he.2.own b hb).2 fun e => nd_at h.nd hi hj hji e (by simpa using hb)).only hput fun b hb hm => hng _ (List.getElem_mem hj) (by rw [List.mem_singleton.1 hm] at hb; simpa using hb)⟩
  · rcases hu b hb with h1 | h1
    · exact nd_at h.nd hi hj hne h1 e
    · have := ((h.els ps[j] (List.getElem_mem hj)).2.own b (by rw [e]; simp)).2
      omega
end Go.Proofs.Ytaalkjbkmkjkpaa.Msg
