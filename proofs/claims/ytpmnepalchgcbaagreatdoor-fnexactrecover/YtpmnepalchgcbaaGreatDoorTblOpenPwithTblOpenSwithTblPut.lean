import Derived.Test.YtpmnepalchgcbaaGreatDoorHeldAwithTblWowithTblAt
import Derived.Test.YtpmnepalchgcbaaGreatDoorTblOk
import Derived.Test.YtpmnepalchgcbaaGreatDoorRowsImplwithQryNumwithChgPure
import Derived.Deep.LoopGhost
import Derived.Deep.DeepCutAuto
namespace Go.Proofs.YtpmnepalchgcbaaGreatDoor.Msg
open Go.ChangeShapes Go.WideShapes Go.ChangeAt Go.RowKit
set_option linter.unusedVariables false
set_option linter.unusedSimpArgs false

/-! a session is opened: pure, and the boxes of l5Open -/
def sess0 : Sess := ⟨0, ⟨#[]⟩, ⟨#[]⟩, 0, 0, [], 0⟩
def newS (c : Chg) : Sess := ⟨c.client, c.tag, c.query, c.page, 1, [], 0⟩
def deadB (s : Sess) : Bool := !liveB s.state
def roomP (xs : List Sess) : List Sess := if xs.length < 16 then xs else match xs.findIdx? deadB with
  | some i => xs.eraseIdx i
  | none => xs
def openFin (xs ys : List Sess) (c : Chg) : List Sess × Int := if 16 ≤ (roomP ys).length then (xs, 2) else (roomP ys ++ [newS c], 0)
def openP (xs : List Sess) (c : Chg) : List Sess × Int := match xs.findIdx? (keyB c.client c.tag) with
  | some i => if liveB (xs.getD i sess0).state then (xs, 1) else openFin xs (xs.eraseIdx i) c
  | none => openFin xs xs c
theorem place_some {xs : List Sess} {c : Int} {t : ByteArray} {i : Nat} (h : xs.findIdx? (keyB c t) = some i) : placeOf xs c t = (i : Int) ∧ i < xs.length := by
  refine ⟨by unfold placeOf; rw [h], ?_⟩
  rw [List.findIdx?_eq_some_iff_getElem] at h
  exact h.1
theorem place_no {xs : List Sess} {c : Int} {t : ByteArray} (h : xs.findIdx? (keyB c t) = none) : placeOf xs c t = -1 := by unfold placeOf; rw [h]
/-- what holds at the head of the loop that makes room -/
def RoomAt (ys qs : List Sess) (k : Nat) : Prop := (qs = ys ∧ ∀ i (h : i < ys.length), i < k → deadB ys[i] = false) ∨ (qs.length < 16 ∧ qs = roomP ys)
theorem room_start (ys : List Sess) : RoomAt ys ys 0 := .inl ⟨rfl, fun _ _ h => absurd h (by omega)⟩
theorem room_end {ys qs : List Sess} {k : Nat} (h : RoomAt ys qs k) (hl : ¬ (k < qs.length ∧ 16 ≤ qs.length)) : qs = roomP ys := by
  rcases h with ⟨rfl, h⟩ | ⟨_, h⟩
  · by_cases hs : qs.length < 16
    · unfold roomP; rw [if_pos hs]
    · have hn : qs.findIdx? deadB = none := by
        rw [List.findIdx?_eq_none_iff]
        intro x hx
        obtain ⟨i, hi, rfl⟩ := List.getElem_of_mem hx
        exact h i hi (by omega)
      unfold roomP
      rw [if_neg hs, hn]
  · exact h
theorem room_live {ys qs : List Sess} {k : Nat} (h : RoomAt ys qs k) (hk : k < qs.length) (h16 : 16 ≤ qs.length) (hd : deadB (qs.getD k sess0) = false) : RoomAt ys qs (k + 1) := by
  rcases h with ⟨rfl, h⟩ | ⟨h1, _⟩
  · refine .inl ⟨rfl, fun i hi hik => ?_⟩
    by_cases e : i = k
    · subst e
      rw [List.getD_eq_getElem?_getD, List.getElem?_eq_getElem hi] at hd
      exact hd
    · exact h i hi (by omega)
  · omega
theorem room_dead {ys qs : List Sess} {k : Nat} (h : RoomAt ys qs k) (hk : k < qs.length) (h16 : 16 ≤ qs.length) (hm : ys.length ≤ 16) (hd : deadB (qs.getD k sess0) = true) : RoomAt ys (qs.eraseIdx k) (k + 1) := by
  rcases h with ⟨rfl, h⟩ | ⟨h1, _⟩
  · have hs : qs.findIdx? deadB = some k := by
      rw [List.findIdx?_eq_some_iff_getElem]
      rw [List.getD_eq_getElem?_getD, List.getElem?_eq_getElem hk] at hd
      exact ⟨hk, hd, fun j hj => by simp [h j (by omega) hj]⟩
    refine .inr ⟨by rw [List.length_eraseIdx, if_pos hk]; omega, ?_⟩
    unfold roomP
    rw [if_neg (by omega), hs]
  · omega
theorem room_len (ys : List Sess) (hm : ys.length ≤ 16) : (roomP ys).length ≤ 16 := by
  unfold roomP
  split
  · omega
  · split
    · have := List.length_eraseIdx_le ys (by assumption); omega
    · exact hm
/-- the boxes -/
structure OB (w : World) (B : Nat) (v t : Value) (cv : Array Value) (X : World) : Prop where
  arg : Box X w.heap.size 24 #[v]
  chg : Box X (w.heap.size + 1) 33 cv
  res : Box X (w.heap.size + 2) 24 #[.slice none 0 0]
  out : Box X B 24 #[t]
  bel : Below w.heap.size w X
  lt : w.heap.size + 2 < B
theorem OB.below {w : World} {B : Nat} {v t : Value} {cv : Array Value} {X Y : World} (h : OB w B v t cv X) (hb : Below X.heap.size X Y) : OB w B v t cv Y := ⟨h.arg.below hb, h.chg.below hb, h.res.below hb, h.out.below hb, bjoin hb h.bel, h.lt⟩
theorem OB.set {w : World} {B : Nat} {v t : Value} {cv : Array Value} {X : World} (h : OB w B v t cv X) (t' : Value) : OB w B v t' cv (X.setCell ⟨B, 0, none⟩ t') := by
  have hl := h.lt
  exact ⟨h.arg.other (by simp; omega) _, h.chg.other (by simp; omega) _, h.res.other (by simp; omega) _, by have := h.out.set 0 t'; simpa using this, h.bel.setCell (p := ⟨B, 0, none⟩) (by dsimp only; omega) _, hl⟩
theorem OB.only {w : World} {B : Nat} {v t : Value} {cv : Array Value} {X Y : World} {bs : List Nat} (h : OB w B v t cv X) (ho : Only bs X Y) (hb : ∀ b ∈ bs, w.heap.size + 3 ≤ b ∧ b ≠ B) : OB w B v t cv Y :=
  ⟨h.arg.only ho fun hm => by have := hb _ hm; omega, h.chg.only ho fun hm => by have := hb _ hm; omega, h.res.only ho fun hm => by have := hb _ hm; omega, h.out.only ho fun hm => (hb _ hm).2 rfl, h.bel.trans (ho.below h.bel.size fun d hd => by have := hb d hd; omega), h.lt⟩
theorem OB.cells {w : World} {B : Nat} {v t : Value} {cv : Array Value} {X : World} (h : OB w B v t cv X) : X.cell? ⟨w.heap.size, 0, none⟩ = some v ∧ X.cell? ⟨B, 0, none⟩ = some t ∧ X.frozen? ⟨B, 0, none⟩ = false ∧ B < X.heap.size ∧ X.cell? ⟨w.heap.size + 2, 0, none⟩ = some (.slice none 0 0) ∧ X.frozen? ⟨w.heap.size + 2, 0, none⟩ = false ∧ w.heap.size + 2 < X.heap.size :=
  ⟨h.arg.cell 0 (by simp), h.out.cell 0 (by simp), h.out.frozen 0, h.out.lt, h.res.cell 0 (by simp), h.res.frozen 0, h.res.lt⟩
/-- a session more, its rows none -/
theorem TE.new {base n : Nat} {X : World} {v : Value} {ps : List (Sess × Value)} (h : TE base X v ps) (s : Sess) (hs : SmS s) (h0 : s.rows = []) (hb : base ≤ X.heap.size) (hn : ps.length = n) (hl : n ≤ 100000) :
    ∃ a' c' w', (Builtin.append_ #[22, 22] 22 #[v, .slice (some ⟨X.heap.size, 0, none⟩) 1 1]).run Tryz.prog (X.alloc (.cells #[.int .i64 s.client, .string s.tag, .string s.query, .int .i64 s.page, .int .i64 s.state, .slice none 0 0, .int .i64 s.cursor] 51)) = .ok (.slice a' (n + 1) c') w' ∧
      TE base w' (.slice a' (n + 1) c') (ps ++ [(s, .slice none 0 0)]) ∧ Only v.ownBlock.toList X w' := by
  obtain ⟨a', c', w', hr, hF, ho, hv⟩ := row_more (C := tsC) (c := 7) (bytes := 88) (e := 51) Tryz.underlying22 info_Sess rfl (by decide) h.row (s, .slice none 0 0) rfl (fun z hz => by
    have hz' : z = .int .i64 s.client ∨ z = .string s.tag ∨ z = .string s.query ∨ z = .int .i64 s.page ∨ z = .int .i64 s.state ∨ z = .slice none 0 0 ∨ z = .int .i64 s.cursor := by simpa [tsC] using hz
    rcases hz' with rfl | rfl | rfl | rfl | rfl | rfl | rfl <;> rfl) hb hn hl (by decide)
  refine ⟨a', c', w', hr, ⟨hF, fun p hp => ?_, nd_snoc h.nd fun b hb' => by simp [Value.ownBlock] at hb'⟩, ho⟩
  rcases List.mem_append.1 hp with hp | hp
  · refine ⟨(h.els p hp).1, (h.els p hp).2.only ho fun b hb' hm => ?_⟩
    obtain ⟨c1, e1⟩ := (h.els p hp).2.blk (b := b) (by simpa using hb')
    obtain ⟨c2, e2⟩ := h.row.blk (b := b) (by simpa using hm)
    rw [e1] at e2
    injection e2 with e2
    injection e2 with _ e2 _
    exact absurd e2 (by decide)
  · rw [List.mem_singleton.1 hp]
    refine ⟨hs, ?_⟩
    rw [h0]
    exact FB.nil _ _ _ _ _
end Go.Proofs.YtpmnepalchgcbaaGreatDoor.Msg

namespace Go.Proofs.YtpmnepalchgcbaaGreatDoor.Msg
open Go.ChangeShapes Go.WideShapes Go.ChangeAt Go.RowKit
set_option linter.unusedVariables false
set_option linter.unusedSimpArgs false

/-! l5Open -/
theorem map_getD (ps : List (Sess × Value)) (i : Nat) (h : i < ps.length) : (ps.map Prod.fst).getD i sess0 = ps[i].1 := by
  rw [List.getD_eq_getElem?_getD, List.getElem?_map, List.getElem?_eq_getElem h]; rfl
theorem map_erase : ∀ (ps : List (Sess × Value)) (i : Nat), (ps.eraseIdx i).map Prod.fst = (ps.map Prod.fst).eraseIdx i
  | [], i => by simp
  | p :: ps, 0 => by simp
  | p :: ps, i + 1 => by simp [map_erase ps i]
theorem te_some {base : Nat} {X : World} {a : Option Addr} {n c : Nat} {ps : List (Sess × Value)} (h : TE base X (.slice a n c) ps) (hz : ps.length ≤ 9223372036854775807) (k : Nat) (hk : k < ps.length) : ∃ b off, a = some ⟨b, off, none⟩ := by
  obtain ⟨_, _, e, hc⟩ := At.form (h.sesss hz)
  injection e with e _ _
  obtain ⟨b, off, e2, _⟩ := hc k (by rw [List.length_map]; exact hk)
  exact ⟨b, off, by rw [e, e2]⟩
set_option maxRecDepth 100000 in
set_option maxHeartbeats 32000000 in
theorem openS_any (xs : List Sess) (v : Value) (c : Chg) (au : Option Addr) (nu cu : Nat) (w : World) {lo : Nat} (hv : SesssAt lo w v xs) (hn : xs.length ≤ 16) (hsm : ∀ s ∈ xs, SmS s) (hc1 : c.tag.size ≤ 9223372036854775807) (hc2 : c.query.size ≤ 9223372036854775807) :
    Calls Tryz.prog 28 #[.agg #[v], chgV c (.slice au nu cu)] w fun e w' => ∃ t, e = .returned (.tuple #[.agg #[t], .int .i64 (openP xs c).2]) ∧ (∃ qs, TE (w.heap.size + 3) w' t qs ∧ qs.map Prod.fst = (openP xs c).1) ∧ Below w.heap.size w w' := by
  have HSN : Hid (SmS (newS c)) := ⟨hc1, hc2, by simp [newS], by simp [newS]⟩
  have HNS : Hid (newS c = ⟨c.client, c.tag, c.query, c.page, 1, [], 0⟩) := rfl
  obtain ⟨R, hR⟩ : ∃ R, openP xs c = R := ⟨_, rfl⟩
  have HR := hide hR
  rw [hR]
  unfold openP at HR
  obtain ⟨ns, hns⟩ : ∃ s, newS c = s := ⟨_, rfl⟩
  have HFN : Hid (∀ ys, openFin xs ys c = if 16 ≤ (roomP ys).length then (xs, 2) else (roomP ys ++ [ns], 0)) := fun ys => by unfold openFin; rw [hns]
  obtain ⟨kind, client, tag, query, page, rows, n0⟩ := c
  unfold chgV
  dsimp only at HR HNS ⊢
  rw [hns] at HSN HNS
  have HV := hide hv
  obtain ⟨a, cap, rfl, _⟩ := At.form hv
  obtain ⟨n, hnn⟩ : ∃ n, xs.length = n := ⟨_, rfl⟩
  have HN := hide hnn
  rw [hnn] at hn ⊢
  obtain ⟨x3, hx3⟩ : ∃ x, ((w.alloc (Obj.cells #[.slice a n cap] 24)).alloc (Obj.cells #[.int .i64 kind, .int .i64 client, .string tag, .string query, .int .i64 page, .slice au nu cu, .int .i64 n0] 33)).alloc (Obj.cells #[.slice none 0 0] 24) = x := ⟨_, rfl⟩
  have s3 : x3.heap.size = w.heap.size + 3 := by rw [← hx3]; simp
  have HO3 : Hid (Box x3 w.heap.size 24 #[.slice a n cap] ∧ Box x3 (w.heap.size + 1) 33 #[.int .i64 kind, .int .i64 client, .string tag, .string query, .int .i64 page, .slice au nu cu, .int .i64 n0] ∧ Box x3 (w.heap.size + 2) 24 #[.slice none 0 0] ∧ Below w.heap.size w x3) := by
    rw [← hx3]
    refine ⟨((Box.new w _ _).alloc _).alloc _, ?_, ?_, ?_⟩
    · have := (Box.new (w.alloc (Obj.cells #[.slice a n cap] 24)) 33 #[.int .i64 kind, .int .i64 client, .string tag, .string query, .int .i64 page, .slice au nu cu, .int .i64 n0]).alloc (Obj.cells #[.slice none 0 0] 24)
      rw [Deep.nblk_alloc] at this
      exact this
    · have := Box.new ((w.alloc (Obj.cells #[.slice a n cap] 24)).alloc (Obj.cells #[.int .i64 kind, .int .i64 client, .string tag, .string query, .int .i64 page, .slice au nu cu, .int .i64 n0] 33)) 24 #[.slice none 0 0]
      rw [Deep.nblk_alloc, Deep.nblk_alloc] at this
      exact this
    · have h1 := (Below.refl w.heap.size w).alloc (Nat.le_refl _) (Obj.cells #[.slice a n cap] 24)
      have h2 := h1.alloc h1.size (Obj.cells #[.int .i64 kind, .int .i64 client, .string tag, .string query, .int .i64 page, .slice au nu cu, .int .i64 n0] 33)
      exact h2.alloc h2.size _
  have HCP := hide (fun W (h : Below w.heap.size w W) => copyTbl_any xs (.slice a xs.length cap) W (At.kept kept_sess HV.out h) (by rw [hnn]; omega) hsm)
  rw [hnn] at HCP
  have HX3 := hide hx3
  have HS3 := hide s3
  obtain ⟨cv, hcv⟩ : ∃ x : Array Value, #[.int .i64 kind, .int .i64 client, .string tag, .string query, .int .i64 page, .slice au nu cu, .int .i64 n0] = x := ⟨_, rfl⟩
  have HCV : Hid (∀ X, Box X (w.heap.size + 1) 33 cv → X.cell? ⟨w.heap.size + 1, 1, none⟩ = some (.int .i64 client) ∧ X.cell? ⟨w.heap.size + 1, 2, none⟩ = some (.string tag) ∧ X.cell? ⟨w.heap.size + 1, 3, none⟩ = some (.string query) ∧ X.cell? ⟨w.heap.size + 1, 4, none⟩ = some (.int .i64 page)) := fun X h => by
    rw [← hcv] at h
    exact ⟨h.cell 1 (by simp), h.cell 2 (by simp), h.cell 3 (by simp), h.cell 4 (by simp)⟩
  rw [hcv] at HO3
  clear hv hnn hx3 s3 hcv hsm hc1 hc2 hR hns
  go_enter Tryz.func28, Tryz.ntmps28
  go_wp2_with fail
  (try rw [HX3.out])
  refine (HCP.out x3 HO3.out.2.2.2).mono ?_
  rintro e W1 ⟨t1, rfl, ⟨ps, hTB⟩, hb1⟩
  obtain ⟨hTE, hmap⟩ := hTB.te
  obtain ⟨a1, c1, rfl, hc1a, hc1b⟩ := hTE.form
  have hpl : ps.length = n := by rw [← HN.out, ← hmap, List.length_map]
  rw [hpl] at hTE ⊢
  obtain ⟨X4, hX4⟩ : ∃ x, W1.alloc (Obj.cells #[.slice a1 n c1] 24) = x := ⟨_, rfl⟩
  have b4 : Below W1.heap.size W1 X4 := by rw [← hX4]; exact (Below.refl _ _).alloc (Nat.le_refl _) _
  obtain ⟨B, hBe⟩ : ∃ B, W1.heap.size = B := ⟨_, rfl⟩
  have HOB4 : Hid (OB w B (.slice a n cap) (.slice a1 n c1) cv X4) := by
    obtain ⟨o1, o2, o3, ob⟩ := HO3.out
    have hb := bjoin b4 hb1
    refine ⟨o1.below hb, o2.below hb, o3.below hb, by rw [← hX4, ← hBe]; exact Box.new _ _ _, bjoin hb ob, ?_⟩
    have := hb1.size
    have := HS3.out
    omega
  have HTE4 : Hid (TE (w.heap.size + 3) X4 (.slice a1 n c1) ps) := (hTE.below b4).low (by have := HS3.out; omega)
  have HMAP := hide hmap
  have HPL := hide hpl
  have HBB : Hid (w.heap.size + 3 ≤ B) := by have := hb1.size; have := HS3.out; show _ ≤ _; omega
  clear hTB hTE hb1 b4 hmap hpl hc1a hc1b
  go_upto_region 2 with fail
  (try rw [hX4])
  (try rw [hBe])
  clear hX4 hBe
  obtain ⟨_, o0, _, _, _, _, _⟩ := HOB4.out.cells
  obtain ⟨q1, q2, _, _⟩ := HCV.out X4 HOB4.out.chg
  have HAT := hide (l5At_any xs (.slice a1 n c1) client tag X4 (lo := w.heap.size + 3) (by have := HTE4.out.sesss (by rw [HPL.out]; omega); rw [HMAP.out] at this; exact this))
  go_wp2_with fail
  refine HAT.out.mono ?_
  rintro e W2 ⟨rfl, hb2⟩
  have HOB := hide (HOB4.out.below hb2)
  have HTE := hide (HTE4.out.below hb2)
  clear hb2 o0 q1 q2 HOB4 HTE4
  have HCASE : Hid (∃ o, xs.findIdx? (keyB client tag) = o) := ⟨_, rfl⟩
  obtain ⟨o, ho⟩ := HCASE.out
  cases o with
  | some i =>
    obtain ⟨hpl, hil⟩ := place_some ho
    rw [ho] at HR
    rw [hpl]
    dsimp only at HR
    have hip : i < ps.length := by rw [HPL.out, ← HN.out]; exact hil
    obtain ⟨b, off, rfl⟩ := te_some HTE.out (by rw [HPL.out]; omega) i hip
    obtain ⟨hbl, _, _, _, _, g4, _⟩ := HTE.out.cells (by rw [HPL.out]; omega) i hip
    obtain ⟨s, hs⟩ : ∃ s, ps[i].1 = s := ⟨_, rfl⟩
    rw [hs] at g4
    have hgd : xs.getD i sess0 = s := by rw [← HMAP.out, map_getD ps i hip, hs]
    rw [hgd] at HR
    have hin : (i : Int) < (n : Int) := by have := HN.out; omega
    have hi0 : (i : Int) ≥ 0 := by omega
    obtain ⟨_, o0, of, ol, r0, rf, rl⟩ := HOB.out.cells
    cases hlive : liveB s.state
    · have HFR : Hid (openFin xs (xs.eraseIdx i) ⟨kind, client, tag, query, page, rows, n0⟩ = R) := by have := HR.out; rw [hlive, if_neg (by decide)] at this; exact this
      have HWO := hide (without_any (.slice (some ⟨b, off, none⟩) n c1) ps i W2 HTE.out (by have := HOB.out.out.lt; have := HBB.out; omega) (by rw [HPL.out]; omega))
      obtain ⟨ys, hys⟩ : ∃ y, xs.eraseIdx i = y := ⟨_, rfl⟩
      have HYM : Hid (ys.length ≤ 16) := by rw [← hys, List.length_eraseIdx, if_pos hil, HN.out]; show _ ≤ _; omega
      have HMX0 : Hid ((ps.eraseIdx i).map Prod.fst = ys) := by rw [map_erase, HMAP.out]; exact hys
      rw [hys] at HFR
      clear hs hgd hpl ho hys
      go_wp2_with fail
      refine (l5Live_any _ _).mono ?_
      rintro e y ⟨rfl, hy⟩
      (try rw [hy])
      clear hy y
      rw [hlive]
      go_wp2_with fail
      refine HWO.out.mono ?_
      rintro e Z ⟨t9, rfl, hT9, hb9⟩
      obtain ⟨ao0, co0, rfl, _⟩ := hT9.form
      obtain ⟨mo0, hm9⟩ : ∃ m, (ps.eraseIdx i).length = m := ⟨_, rfl⟩
      rw [hm9] at hT9 ⊢
      have hOB9 := HOB.out.below hb9
      obtain ⟨_, p0, pf, pl, _, _, _⟩ := hOB9.cells
      obtain ⟨XX, hXX⟩ : ∃ x, Z.setCell ⟨B, 0, none⟩ (.slice ao0 mo0 co0) = x := ⟨_, rfl⟩
      have HOBX : Hid (OB w B (.slice a n cap) (.slice ao0 mo0 co0) cv XX) := by rw [← hXX]; exact hOB9.set (.slice ao0 mo0 co0)
      have HTEX : Hid (TE (w.heap.size + 3) XX (.slice ao0 mo0 co0) (ps.eraseIdx i)) := by rw [← hXX]; exact hT9.setBox (o := 0) hOB9.out (.slice ao0 mo0 co0)
      have HML0 := hide hm9
      obtain ⟨qs0, hq0⟩ : ∃ q, ps.eraseIdx i = q := ⟨_, rfl⟩
      rw [hq0] at HTEX HML0 HMX0
      have HMX := hide HMX0.out
      clear hT9 hb9 hOB9 hm9 o0 of ol r0 rf rl g4 hq0
      go_wp2_with fail
      (try rw [hXX])
      (try clear hXX)
      go_loopg [8] 17 (fun q i wr => ∃ (k mo : Nat) (ao : Option Addr) (co : Nat) (qs : List (Sess × Value)), k ≤ 16 ∧ q = 17 - k ∧ i = .int .i64 (k : Int) ∧ OB w B (.slice a n cap) (.slice ao mo co) cv wr ∧ TE (w.heap.size + 3) wr (.slice ao mo co) qs ∧ qs.length = mo ∧ RoomAt ys (qs.map Prod.fst) k ∧ mo ≤ 16)
      case atStart => exact ⟨0, mo0, ao0, co0, qs0, by omega, rfl, rfl, HOBX.out, HTEX.out, HML0.out, by rw [HMX.out]; exact room_start ys, by rw [← HML0.out, ← List.length_map (f := Prod.fst), HMX.out]; exact HYM.out⟩
      case round =>
        obtain ⟨k, mo, ao, co, qs, hk, rfl, rfl, hOB, hTE, hml, hra, hmo⟩ := hrel
        obtain ⟨Y, rfl⟩ : ∃ x, x = wr := ⟨_, rfl⟩
        have HOBY := hide hOB
        have HTEY := hide hTE
        have HML := hide hml
        have HRA := hide hra
        clear hOB hTE hml hra
        by_cases hkm : k < mo
        · have hkmi : (k : Int) < (mo : Int) := by omega
          by_cases h16r : 16 ≤ mo
          · have h16ri : (mo : Int) ≥ 16 := by omega
            have hkq : k < qs.length := by rw [HML.out]; exact hkm
            obtain ⟨b, off, rfl⟩ := te_some HTEY.out (by rw [HML.out]; omega) k hkq
            obtain ⟨hbl, _, _, _, _, g4, _⟩ := HTEY.out.cells (by rw [HML.out]; omega) k hkq
            obtain ⟨s, hs⟩ : ∃ s, qs[k].1 = s := ⟨_, rfl⟩
            rw [hs] at g4
            have hgd : (qs.map Prod.fst).getD k sess0 = s := by rw [map_getD qs k hkq, hs]
            obtain ⟨_, o0, of, ol, r0, rf, rl⟩ := HOBY.out.cells
            cases hlive : liveB s.state
            · have HRA2 := hide (room_dead HRA.out (by rw [List.length_map]; exact hkq) (by rw [List.length_map, HML.out]; exact h16r) HYM.out (by rw [hgd]; unfold deadB; rw [hlive]; rfl))
              have HWO := hide (without_any (.slice (some ⟨b, off, none⟩) mo co) qs k Y HTEY.out (by have := HOBY.out.out.lt; have := HBB.out; omega) (by rw [HML.out]; omega))
              clear hs hgd
              go_wp2_with fail
              refine (l5Live_any _ _).mono ?_
              rintro e y ⟨rfl, hy⟩
              (try rw [hy])
              clear hy y
              rw [hlive]
              go_wp2_with fail
              refine HWO.out.mono ?_
              rintro e Z ⟨t9, rfl, hT9, hb9⟩
              obtain ⟨a9, c9, rfl, _⟩ := hT9.form
              obtain ⟨m9, hm9⟩ : ∃ m, (qs.eraseIdx k).length = m := ⟨_, rfl⟩
              have hm9l : m9 ≤ 16 := by rw [← hm9, List.length_eraseIdx, if_pos hkq, HML.out]; omega
              rw [hm9] at hT9 ⊢
              have hOB9 := HOBY.out.below hb9
              obtain ⟨_, p0, pf, pl, _, _, _⟩ := hOB9.cells
              have HOB9 := hide (hOB9.set (.slice a9 m9 c9))
              have HT9 := hide (hT9.setBox (o := 0) hOB9.out (.slice a9 m9 c9))
              have HM9 := hide hm9
              clear hT9 hb9 hOB9 hm9 o0 of ol r0 rf rl g4
              go_wp2_with fail
              go_roundg (17 - (k + 1))
              case measure => omega
              case rel => exact ⟨k + 1, m9, a9, c9, qs.eraseIdx k, by omega, rfl, by go_num, HOB9.out, HT9.out, HM9.out, by rw [map_erase]; exact HRA2.out, hm9l⟩
            · have HRA2 := hide (room_live HRA.out (by rw [List.length_map]; exact hkq) (by rw [List.length_map, HML.out]; exact h16r) (by rw [hgd]; unfold deadB; rw [hlive]; rfl))
              clear hs hgd
              go_wp2_with fail
              refine (l5Live_any _ _).mono ?_
              rintro e y ⟨rfl, hy⟩
              (try rw [hy])
              clear hy y
              rw [hlive]
              go_wp2_with fail
              go_roundg (17 - (k + 1))
              case measure => omega
              case rel => exact ⟨k + 1, mo, _, co, qs, by omega, rfl, by go_num, HOBY.out, HTEY.out, HML.out, HRA2.out, hmo⟩
          · have h16ri : ¬ (mo : Int) ≥ 16 := by omega
            have HRP := hide (room_end HRA.out (by rw [List.length_map, HML.out]; omega))
            obtain ⟨_, o0, of, ol, r0, rf, rl⟩ := HOBY.out.cells
            have HYL := hide (room_len ys HYM.out)
            by_cases h16 : 16 ≤ mo
            · have h16i : (mo : Int) ≥ 16 := by omega
              exact absurd h16 h16r
            · have h16i : ¬ (mo : Int) ≥ 16 := by omega
              have HRE : Hid (R = (qs.map Prod.fst ++ [ns], 0)) := by rw [← HFR.out, HFN.out, ← HRP.out, if_neg (by rw [List.length_map, HML.out]; exact h16)]; trivial
              obtain ⟨q1, q2, q3, q4⟩ := HCV.out Y HOBY.out.chg
              obtain ⟨Z, hZ⟩ : ∃ x, Y.alloc (Obj.cells #[.int .i64 client, .string tag, .string query, .int .i64 page, .int .i64 1, .slice none 0 0, .int .i64 0] 51) = x := ⟨_, rfl⟩
              have bZ : Below Y.heap.size Y Z := by rw [← hZ]; exact (Below.refl _ _).alloc (Nat.le_refl _) _
              have oZ : Box Z Y.heap.size 51 #[.int .i64 client, .string tag, .string query, .int .i64 page, .int .i64 1, .slice none 0 0, .int .i64 0] := by rw [← hZ]; exact Box.new _ _ _
              have hOBZ := HOBY.out.below bZ
              have hTEZ := HTEY.out.below bZ
              obtain ⟨a8, c8, w8, hr8', hT8, ho8⟩ := hTEZ.new (n := mo) ns HSN.out (by rw [HNS.out]) (by have := HOBY.out.out.lt; have := bZ.size; have := HBB.out; omega) HML.out (by omega)
              rw [HNS.out] at hr8'
              have hr8 : (Builtin.append_ #[22, 22] 22 #[.slice ao mo co, .slice (some ⟨Z.heap.size, 0, none⟩) 1 1]).run Tryz.prog (Z.alloc (.cells #[.int .i64 client, .string tag, .string query, .int .i64 page, .int .i64 1, .slice none 0 0, .int .i64 0] 51)) = .ok (.slice a8 (mo + 1) c8) w8 := hr8'
              have hOB8 := hOBZ.only ho8 (fun b hb => ⟨(hTEZ.row.own b hb).1, fun e => hTEZ.apart hOBZ.out (by decide) (by decide) (.inl (by rw [← e]; simpa using hb))⟩)
              obtain ⟨_, p0, pf, pl, _, _, _⟩ := hOB8.cells
              have hOB9 := hOB8.set (.slice a8 (mo + 1) c8)
              have hT9 := hT8.setBox (o := 0) hOB8.out (.slice a8 (mo + 1) c8)
              obtain ⟨X9, hX9⟩ : ∃ x, w8.setCell ⟨B, 0, none⟩ (.slice a8 (mo + 1) c8) = x := ⟨_, rfl⟩
              rw [hX9] at hOB9 hT9
              have HFE : Hid (∀ x, TE (w.heap.size + 3) (X9.setCell ⟨w.heap.size + 2, 0, none⟩ x) (.slice a8 (mo + 1) c8) (qs ++ [(ns, .slice none 0 0)]) ∧ Below w.heap.size w (X9.setCell ⟨w.heap.size + 2, 0, none⟩ x)) := fun x => ⟨hT9.setBox hOB9.res x, hOB9.bel.setCell (p := ⟨w.heap.size + 2, 0, none⟩) (by simp) x⟩
              have HOB9 := hide hOB9
              have HOBZ := hide hOBZ
              have HOZ := hide oZ
              have HZ := hide hZ
              clear hOBZ hTEZ hr8' hT8 ho8 hOB8 hOB9 hT9 bZ oZ hZ
              go_upto_region 15 with fail
              (try rw [HZ.out])
              clear o0 of ol r0 rf rl q1 q2 q3 q4
              obtain ⟨_, o0, of, ol, _, _, _⟩ := HOBZ.out.cells
              have k0 : Z.cell? ⟨Y.heap.size, 0, none⟩ = some (.int .i64 client) := HOZ.out.cell 0 (by simp)
              have k1 : Z.cell? ⟨Y.heap.size, 1, none⟩ = some (.string tag) := HOZ.out.cell 1 (by simp)
              have k2 : Z.cell? ⟨Y.heap.size, 2, none⟩ = some (.string query) := HOZ.out.cell 2 (by simp)
              have k3 : Z.cell? ⟨Y.heap.size, 3, none⟩ = some (.int .i64 page) := HOZ.out.cell 3 (by simp)
              have k4 : Z.cell? ⟨Y.heap.size, 4, none⟩ = some (.int .i64 1) := HOZ.out.cell 4 (by simp)
              have k5 : Z.cell? ⟨Y.heap.size, 5, none⟩ = some (.slice none 0 0) := HOZ.out.cell 5 (by simp)
              have k6 : Z.cell? ⟨Y.heap.size, 6, none⟩ = some (.int .i64 0) := HOZ.out.cell 6 (by simp)
              go_upto_region 16 with (first | (at_builtin; refine wpList_app rfl _ _ 22 rfl hr8 (by first | rfl | simp [Act.eval, Act.put]) (by first | rfl | simp [Act.eval, Act.put]) ?_))
              (try rw [hX9])
              clear hX9 o0 of ol k0 k1 k2 k3 k4 k5 k6 p0 pf pl hr8
              obtain ⟨_, o0, _, _, z0, zf, zl⟩ := HOB9.out.cells
              go_wp2_with fail
              skip
              exact bodyPost_ret (v := .tuple #[.agg #[.slice a8 (mo + 1) c8], .int .i64 0]) (by simp [results, Tryz.results28, go_sem, z0, zl]) rfl ⟨_, by rw [HRE.out], ⟨_, (HFE.out _).1, by rw [HRE.out, List.map_append]; rfl⟩, (HFE.out _).2⟩
        · have hkmi : ¬ (k : Int) < (mo : Int) := by omega
          have HRP := hide (room_end HRA.out (by rw [List.length_map, HML.out]; omega))
          obtain ⟨_, o0, of, ol, r0, rf, rl⟩ := HOBY.out.cells
          have HYL := hide (room_len ys HYM.out)
          by_cases h16 : 16 ≤ mo
          · have h16i : (mo : Int) ≥ 16 := by omega
            have HRE : Hid (R = (xs, 2)) := by rw [← HFR.out, HFN.out, if_pos (by rw [← HRP.out, List.length_map, HML.out]; exact h16)]; trivial
            have g0 := HOBY.out.arg.cell 0 (by simp)
            have g0' : Y.cell? ⟨w.heap.size, 0, none⟩ = some (.slice a n cap) := by simpa using g0
            clear g0 o0 of ol r0 rf rl
            obtain ⟨_, o0, of, ol, r0, rf, rl⟩ := HOBY.out.cells
            go_wp2_with fail
            refine (HCP.out Y HOBY.out.bel).mono ?_
            rintro e Z ⟨t9, rfl, ⟨ps9, hTB9⟩, hb9⟩
            obtain ⟨hTE9, hmap9⟩ := hTB9.te
            obtain ⟨a9, c9, rfl, _⟩ := hTE9.form
            obtain ⟨m9, hm9⟩ : ∃ m, ps9.length = m := ⟨_, rfl⟩
            rw [hm9] at hTE9 ⊢
            have hOB9 := HOBY.out.below hb9
            obtain ⟨_, _, _, _, z0, zf, zl⟩ := hOB9.cells
            have HFE : Hid (∀ x, TE (w.heap.size + 3) (Z.setCell ⟨w.heap.size + 2, 0, none⟩ x) (.slice a9 m9 c9) ps9 ∧ Below w.heap.size w (Z.setCell ⟨w.heap.size + 2, 0, none⟩ x)) := fun x => ⟨(hTE9.setBox hOB9.res x).low (by have := HOBY.out.out.lt; have := HOBY.out.lt; omega), hOB9.bel.setCell (p := ⟨w.heap.size + 2, 0, none⟩) (by simp) x⟩
            have HM9 := hide hmap9
            clear hTB9 hTE9 hb9 hOB9 o0 of ol r0 rf rl g0' hm9 hmap9
            go_wp2_with fail
            exact bodyPost_ret (v := .tuple #[.agg #[.slice a9 m9 c9], .int .i64 2]) (by simp [results, Tryz.results28, go_sem, z0, zl]) rfl ⟨_, by rw [HRE.out], ⟨ps9, (HFE.out _).1, by rw [HM9.out, HRE.out]⟩, (HFE.out _).2⟩
          · have h16i : ¬ (mo : Int) ≥ 16 := by omega
            have HRE : Hid (R = (qs.map Prod.fst ++ [ns], 0)) := by rw [← HFR.out, HFN.out, ← HRP.out, if_neg (by rw [List.length_map, HML.out]; exact h16)]; trivial
            obtain ⟨q1, q2, q3, q4⟩ := HCV.out Y HOBY.out.chg
            obtain ⟨Z, hZ⟩ : ∃ x, Y.alloc (Obj.cells #[.int .i64 client, .string tag, .string query, .int .i64 page, .int .i64 1, .slice none 0 0, .int .i64 0] 51) = x := ⟨_, rfl⟩
            have bZ : Below Y.heap.size Y Z := by rw [← hZ]; exact (Below.refl _ _).alloc (Nat.le_refl _) _
            have oZ : Box Z Y.heap.size 51 #[.int .i64 client, .string tag, .string query, .int .i64 page, .int .i64 1, .slice none 0 0, .int .i64 0] := by rw [← hZ]; exact Box.new _ _ _
            have hOBZ := HOBY.out.below bZ
            have hTEZ := HTEY.out.below bZ
            obtain ⟨a8, c8, w8, hr8', hT8, ho8⟩ := hTEZ.new (n := mo) ns HSN.out (by rw [HNS.out]) (by have := HOBY.out.out.lt; have := bZ.size; have := HBB.out; omega) HML.out (by omega)
            rw [HNS.out] at hr8'
            have hr8 : (Builtin.append_ #[22, 22] 22 #[.slice ao mo co, .slice (some ⟨Z.heap.size, 0, none⟩) 1 1]).run Tryz.prog (Z.alloc (.cells #[.int .i64 client, .string tag, .string query, .int .i64 page, .int .i64 1, .slice none 0 0, .int .i64 0] 51)) = .ok (.slice a8 (mo + 1) c8) w8 := hr8'
            have hOB8 := hOBZ.only ho8 (fun b hb => ⟨(hTEZ.row.own b hb).1, fun e => hTEZ.apart hOBZ.out (by decide) (by decide) (.inl (by rw [← e]; simpa using hb))⟩)
            obtain ⟨_, p0, pf, pl, _, _, _⟩ := hOB8.cells
            have hOB9 := hOB8.set (.slice a8 (mo + 1) c8)
            have hT9 := hT8.setBox (o := 0) hOB8.out (.slice a8 (mo + 1) c8)
            obtain ⟨X9, hX9⟩ : ∃ x, w8.setCell ⟨B, 0, none⟩ (.slice a8 (mo + 1) c8) = x := ⟨_, rfl⟩
            rw [hX9] at hOB9 hT9
            have HFE : Hid (∀ x, TE (w.heap.size + 3) (X9.setCell ⟨w.heap.size + 2, 0, none⟩ x) (.slice a8 (mo + 1) c8) (qs ++ [(ns, .slice none 0 0)]) ∧ Below w.heap.size w (X9.setCell ⟨w.heap.size + 2, 0, none⟩ x)) := fun x => ⟨hT9.setBox hOB9.res x, hOB9.bel.setCell (p := ⟨w.heap.size + 2, 0, none⟩) (by simp) x⟩
            have HOB9 := hide hOB9
            have HOBZ := hide hOBZ
            have HOZ := hide oZ
            have HZ := hide hZ
            clear hOBZ hTEZ hr8' hT8 ho8 hOB8 hOB9 hT9 bZ oZ hZ
            go_upto_region 15 with fail
            (try rw [HZ.out])
            clear o0 of ol r0 rf rl q1 q2 q3 q4
            obtain ⟨_, o0, of, ol, _, _, _⟩ := HOBZ.out.cells
            have k0 : Z.cell? ⟨Y.heap.size, 0, none⟩ = some (.int .i64 client) := HOZ.out.cell 0 (by simp)
            have k1 : Z.cell? ⟨Y.heap.size, 1, none⟩ = some (.string tag) := HOZ.out.cell 1 (by simp)
            have k2 : Z.cell? ⟨Y.heap.size, 2, none⟩ = some (.string query) := HOZ.out.cell 2 (by simp)
            have k3 : Z.cell? ⟨Y.heap.size, 3, none⟩ = some (.int .i64 page) := HOZ.out.cell 3 (by simp)
            have k4 : Z.cell? ⟨Y.heap.size, 4, none⟩ = some (.int .i64 1) := HOZ.out.cell 4 (by simp)
            have k5 : Z.cell? ⟨Y.heap.size, 5, none⟩ = some (.slice none 0 0) := HOZ.out.cell 5 (by simp)
            have k6 : Z.cell? ⟨Y.heap.size, 6, none⟩ = some (.int .i64 0) := HOZ.out.cell 6 (by simp)
            go_upto_region 16 with (first | (at_builtin; refine wpList_app rfl _ _ 22 rfl hr8 (by first | rfl | simp [Act.eval, Act.put]) (by first | rfl | simp [Act.eval, Act.put]) ?_))
            (try rw [hX9])
            clear hX9 o0 of ol k0 k1 k2 k3 k4 k5 k6 p0 pf pl hr8
            obtain ⟨_, o0, _, _, z0, zf, zl⟩ := HOB9.out.cells
            go_wp2_with fail
            skip
            exact bodyPost_ret (v := .tuple #[.agg #[.slice a8 (mo + 1) c8], .int .i64 0]) (by simp [results, Tryz.results28, go_sem, z0, zl]) rfl ⟨_, by rw [HRE.out], ⟨_, (HFE.out _).1, by rw [HRE.out, List.map_append]; rfl⟩, (HFE.out _).2⟩
    · have HRE : Hid (R = (xs, 1)) := by have := HR.out; rw [hlive, if_pos rfl] at this; exact this.symm
      have HFE : Hid (∀ x, TE (w.heap.size + 3) (W2.setCell ⟨w.heap.size + 2, 0, none⟩ x) (.slice (some ⟨b, off, none⟩) n c1) ps ∧ Below w.heap.size w (W2.setCell ⟨w.heap.size + 2, 0, none⟩ x)) := fun x => ⟨HTE.out.setBox HOB.out.res x, HOB.out.bel.setCell (p := ⟨w.heap.size + 2, 0, none⟩) (by simp) x⟩
      clear hs hgd hpl ho
      go_wp2_with fail
      refine (l5Live_any _ _).mono ?_
      rintro e y ⟨rfl, hy⟩
      (try rw [hy])
      clear hy y
      rw [hlive]
      go_wp2_with fail
      exact bodyPost_ret (v := .tuple #[.agg #[.slice (some ⟨b, off, none⟩) n c1], .int .i64 1]) (by simp [results, Tryz.results28, go_sem, r0, rl]) rfl ⟨_, by rw [HRE.out], ⟨ps, (HFE.out _).1, by rw [HMAP.out, HRE.out]⟩, (HFE.out _).2⟩
  | none =>
    have hpl := place_no ho
    rw [ho] at HR
    rw [hpl]
    dsimp only at HR
    obtain ⟨ys, hys⟩ : ∃ y, xs = y := ⟨_, rfl⟩
    have HFR : Hid (openFin xs ys ⟨kind, client, tag, query, page, rows, n0⟩ = R) := by rw [← hys]; exact HR.out
    have HYM : Hid (ys.length ≤ 16) := by rw [← hys, HN.out]; exact hn
    have HMX : Hid (ps.map Prod.fst = ys) := by rw [HMAP.out]; exact hys
    have HOBX := hide HOB.out
    have HTEX := hide HTE.out
    obtain ⟨ao0, hao⟩ : ∃ q, a1 = q := ⟨_, rfl⟩
    obtain ⟨mo0, hmo0⟩ : ∃ q, n = q := ⟨_, rfl⟩
    obtain ⟨co0, hco⟩ : ∃ q, c1 = q := ⟨_, rfl⟩
    have HOBX : Hid (OB w B (.slice a n cap) (.slice ao0 mo0 co0) cv W2) := by rw [← hao, ← hmo0, ← hco]; exact HOB.out
    have HTEX : Hid (TE (w.heap.size + 3) W2 (.slice ao0 mo0 co0) ps) := by rw [← hao, ← hmo0, ← hco]; exact HTE.out
    have HML0 : Hid (ps.length = mo0) := by rw [← hmo0]; exact HPL.out
    obtain ⟨qs0, hq0⟩ : ∃ q, ps = q := ⟨_, rfl⟩
    rw [hq0] at HTEX HML0 HMX
    clear hpl ho hys hao hmo0 hco hq0
    go_wp2_with fail
    (try rw [hXX])
    (try clear hXX)
    go_loopg [8] 17 (fun q i wr => ∃ (k mo : Nat) (ao : Option Addr) (co : Nat) (qs : List (Sess × Value)), k ≤ 16 ∧ q = 17 - k ∧ i = .int .i64 (k : Int) ∧ OB w B (.slice a n cap) (.slice ao mo co) cv wr ∧ TE (w.heap.size + 3) wr (.slice ao mo co) qs ∧ qs.length = mo ∧ RoomAt ys (qs.map Prod.fst) k ∧ mo ≤ 16)
    case atStart => exact ⟨0, mo0, ao0, co0, qs0, by omega, rfl, rfl, HOBX.out, HTEX.out, HML0.out, by rw [HMX.out]; exact room_start ys, by rw [← HML0.out, ← List.length_map (f := Prod.fst), HMX.out]; exact HYM.out⟩
    case round =>
      obtain ⟨k, mo, ao, co, qs, hk, rfl, rfl, hOB, hTE, hml, hra, hmo⟩ := hrel
      obtain ⟨Y, rfl⟩ : ∃ x, x = wr := ⟨_, rfl⟩
      have HOBY := hide hOB
      have HTEY := hide hTE
      have HML := hide hml
      have HRA := hide hra
      clear hOB hTE hml hra
      by_cases hkm : k < mo
      · have hkmi : (k : Int) < (mo : Int) := by omega
        by_cases h16r : 16 ≤ mo
        · have h16ri : (mo : Int) ≥ 16 := by omega
          have hkq : k < qs.length := by rw [HML.out]; exact hkm
          obtain ⟨b, off, rfl⟩ := te_some HTEY.out (by rw [HML.out]; omega) k hkq
          obtain ⟨hbl, _, _, _, _, g4, _⟩ := HTEY.out.cells (by rw [HML.out]; omega) k hkq
          obtain ⟨s, hs⟩ : ∃ s, qs[k].1 = s := ⟨_, rfl⟩
          rw [hs] at g4
          have hgd : (qs.map Prod.fst).getD k sess0 = s := by rw [map_getD qs k hkq, hs]
          obtain ⟨_, o0, of, ol, r0, rf, rl⟩ := HOBY.out.cells
          cases hlive : liveB s.state
          · have HRA2 := hide (room_dead HRA.out (by rw [List.length_map]; exact hkq) (by rw [List.length_map, HML.out]; exact h16r) HYM.out (by rw [hgd]; unfold deadB; rw [hlive]; rfl))
            have HWO := hide (without_any (.slice (some ⟨b, off, none⟩) mo co) qs k Y HTEY.out (by have := HOBY.out.out.lt; have := HBB.out; omega) (by rw [HML.out]; omega))
            clear hs hgd
            go_wp2_with fail
            refine (l5Live_any _ _).mono ?_
            rintro e y ⟨rfl, hy⟩
            (try rw [hy])
            clear hy y
            rw [hlive]
            go_wp2_with fail
            refine HWO.out.mono ?_
            rintro e Z ⟨t9, rfl, hT9, hb9⟩
            obtain ⟨a9, c9, rfl, _⟩ := hT9.form
            obtain ⟨m9, hm9⟩ : ∃ m, (qs.eraseIdx k).length = m := ⟨_, rfl⟩
            have hm9l : m9 ≤ 16 := by rw [← hm9, List.length_eraseIdx, if_pos hkq, HML.out]; omega
            rw [hm9] at hT9 ⊢
            have hOB9 := HOBY.out.below hb9
            obtain ⟨_, p0, pf, pl, _, _, _⟩ := hOB9.cells
            have HOB9 := hide (hOB9.set (.slice a9 m9 c9))
            have HT9 := hide (hT9.setBox (o := 0) hOB9.out (.slice a9 m9 c9))
            have HM9 := hide hm9
            clear hT9 hb9 hOB9 hm9 o0 of ol r0 rf rl g4
            go_wp2_with fail
            go_roundg (17 - (k + 1))
            case measure => omega
            case rel => exact ⟨k + 1, m9, a9, c9, qs.eraseIdx k, by omega, rfl, by go_num, HOB9.out, HT9.out, HM9.out, by rw [map_erase]; exact HRA2.out, hm9l⟩
          · have HRA2 := hide (room_live HRA.out (by rw [List.length_map]; exact hkq) (by rw [List.length_map, HML.out]; exact h16r) (by rw [hgd]; unfold deadB; rw [hlive]; rfl))
            clear hs hgd
            go_wp2_with fail
            refine (l5Live_any _ _).mono ?_
            rintro e y ⟨rfl, hy⟩
            (try rw [hy])
            clear hy y
            rw [hlive]
            go_wp2_with fail
            go_roundg (17 - (k + 1))
            case measure => omega
            case rel => exact ⟨k + 1, mo, _, co, qs, by omega, rfl, by go_num, HOBY.out, HTEY.out, HML.out, HRA2.out, hmo⟩
        · have h16ri : ¬ (mo : Int) ≥ 16 := by omega
          have HRP := hide (room_end HRA.out (by rw [List.length_map, HML.out]; omega))
          obtain ⟨_, o0, of, ol, r0, rf, rl⟩ := HOBY.out.cells
          have HYL := hide (room_len ys HYM.out)
          by_cases h16 : 16 ≤ mo
          · have h16i : (mo : Int) ≥ 16 := by omega
            exact absurd h16 h16r
          · have h16i : ¬ (mo : Int) ≥ 16 := by omega
            have HRE : Hid (R = (qs.map Prod.fst ++ [ns], 0)) := by rw [← HFR.out, HFN.out, ← HRP.out, if_neg (by rw [List.length_map, HML.out]; exact h16)]; trivial
            obtain ⟨q1, q2, q3, q4⟩ := HCV.out Y HOBY.out.chg
            obtain ⟨Z, hZ⟩ : ∃ x, Y.alloc (Obj.cells #[.int .i64 client, .string tag, .string query, .int .i64 page, .int .i64 1, .slice none 0 0, .int .i64 0] 51) = x := ⟨_, rfl⟩
            have bZ : Below Y.heap.size Y Z := by rw [← hZ]; exact (Below.refl _ _).alloc (Nat.le_refl _) _
            have oZ : Box Z Y.heap.size 51 #[.int .i64 client, .string tag, .string query, .int .i64 page, .int .i64 1, .slice none 0 0, .int .i64 0] := by rw [← hZ]; exact Box.new _ _ _
            have hOBZ := HOBY.out.below bZ
            have hTEZ := HTEY.out.below bZ
            obtain ⟨a8, c8, w8, hr8', hT8, ho8⟩ := hTEZ.new (n := mo) ns HSN.out (by rw [HNS.out]) (by have := HOBY.out.out.lt; have := bZ.size; have := HBB.out; omega) HML.out (by omega)
            rw [HNS.out] at hr8'
            have hr8 : (Builtin.append_ #[22, 22] 22 #[.slice ao mo co, .slice (some ⟨Z.heap.size, 0, none⟩) 1 1]).run Tryz.prog (Z.alloc (.cells #[.int .i64 client, .string tag, .string query, .int .i64 page, .int .i64 1, .slice none 0 0, .int .i64 0] 51)) = .ok (.slice a8 (mo + 1) c8) w8 := hr8'
            have hOB8 := hOBZ.only ho8 (fun b hb => ⟨(hTEZ.row.own b hb).1, fun e => hTEZ.apart hOBZ.out (by decide) (by decide) (.inl (by rw [← e]; simpa using hb))⟩)
            obtain ⟨_, p0, pf, pl, _, _, _⟩ := hOB8.cells
            have hOB9 := hOB8.set (.slice a8 (mo + 1) c8)
            have hT9 := hT8.setBox (o := 0) hOB8.out (.slice a8 (mo + 1) c8)
            obtain ⟨X9, hX9⟩ : ∃ x, w8.setCell ⟨B, 0, none⟩ (.slice a8 (mo + 1) c8) = x := ⟨_, rfl⟩
            rw [hX9] at hOB9 hT9
            have HFE : Hid (∀ x, TE (w.heap.size + 3) (X9.setCell ⟨w.heap.size + 2, 0, none⟩ x) (.slice a8 (mo + 1) c8) (qs ++ [(ns, .slice none 0 0)]) ∧ Below w.heap.size w (X9.setCell ⟨w.heap.size + 2, 0, none⟩ x)) := fun x => ⟨hT9.setBox hOB9.res x, hOB9.bel.setCell (p := ⟨w.heap.size + 2, 0, none⟩) (by simp) x⟩
            have HOB9 := hide hOB9
            have HOBZ := hide hOBZ
            have HOZ := hide oZ
            have HZ := hide hZ
            clear hOBZ hTEZ hr8' hT8 ho8 hOB8 hOB9 hT9 bZ oZ hZ
            go_upto_region 15 with fail
            (try rw [HZ.out])
            clear o0 of ol r0 rf rl q1 q2 q3 q4
            obtain ⟨_, o0, of, ol, _, _, _⟩ := HOBZ.out.cells
            have k0 : Z.cell? ⟨Y.heap.size, 0, none⟩ = some (.int .i64 client) := HOZ.out.cell 0 (by simp)
            have k1 : Z.cell? ⟨Y.heap.size, 1, none⟩ = some (.string tag) := HOZ.out.cell 1 (by simp)
            have k2 : Z.cell? ⟨Y.heap.size, 2, none⟩ = some (.string query) := HOZ.out.cell 2 (by simp)
            have k3 : Z.cell? ⟨Y.heap.size, 3, none⟩ = some (.int .i64 page) := HOZ.out.cell 3 (by simp)
            have k4 : Z.cell? ⟨Y.heap.size, 4, none⟩ = some (.int .i64 1) := HOZ.out.cell 4 (by simp)
            have k5 : Z.cell? ⟨Y.heap.size, 5, none⟩ = some (.slice none 0 0) := HOZ.out.cell 5 (by simp)
            have k6 : Z.cell? ⟨Y.heap.size, 6, none⟩ = some (.int .i64 0) := HOZ.out.cell 6 (by simp)
            go_upto_region 16 with (first | (at_builtin; refine wpList_app rfl _ _ 22 rfl hr8 (by first | rfl | simp [Act.eval, Act.put]) (by first | rfl | simp [Act.eval, Act.put]) ?_))
            (try rw [hX9])
            clear hX9 o0 of ol k0 k1 k2 k3 k4 k5 k6 p0 pf pl hr8
            obtain ⟨_, o0, _, _, z0, zf, zl⟩ := HOB9.out.cells
            go_wp2_with fail
            skip
            exact bodyPost_ret (v := .tuple #[.agg #[.slice a8 (mo + 1) c8], .int .i64 0]) (by simp [results, Tryz.results28, go_sem, z0, zl]) rfl ⟨_, by rw [HRE.out], ⟨_, (HFE.out _).1, by rw [HRE.out, List.map_append]; rfl⟩, (HFE.out _).2⟩
      · have hkmi : ¬ (k : Int) < (mo : Int) := by omega
        have HRP := hide (room_end HRA.out (by rw [List.length_map, HML.out]; omega))
        obtain ⟨_, o0, of, ol, r0, rf, rl⟩ := HOBY.out.cells
        have HYL := hide (room_len ys HYM.out)
        by_cases h16 : 16 ≤ mo
        · have h16i : (mo : Int) ≥ 16 := by omega
          have HRE : Hid (R = (xs, 2)) := by rw [← HFR.out, HFN.out, if_pos (by rw [← HRP.out, List.length_map, HML.out]; exact h16)]; trivial
          have g0 := HOBY.out.arg.cell 0 (by simp)
          have g0' : Y.cell? ⟨w.heap.size, 0, none⟩ = some (.slice a n cap) := by simpa using g0
          clear g0 o0 of ol r0 rf rl
          obtain ⟨_, o0, of, ol, r0, rf, rl⟩ := HOBY.out.cells
          go_wp2_with fail
          refine (HCP.out Y HOBY.out.bel).mono ?_
          rintro e Z ⟨t9, rfl, ⟨ps9, hTB9⟩, hb9⟩
          obtain ⟨hTE9, hmap9⟩ := hTB9.te
          obtain ⟨a9, c9, rfl, _⟩ := hTE9.form
          obtain ⟨m9, hm9⟩ : ∃ m, ps9.length = m := ⟨_, rfl⟩
          rw [hm9] at hTE9 ⊢
          have hOB9 := HOBY.out.below hb9
          obtain ⟨_, _, _, _, z0, zf, zl⟩ := hOB9.cells
          have HFE : Hid (∀ x, TE (w.heap.size + 3) (Z.setCell ⟨w.heap.size + 2, 0, none⟩ x) (.slice a9 m9 c9) ps9 ∧ Below w.heap.size w (Z.setCell ⟨w.heap.size + 2, 0, none⟩ x)) := fun x => ⟨(hTE9.setBox hOB9.res x).low (by have := HOBY.out.out.lt; have := HOBY.out.lt; omega), hOB9.bel.setCell (p := ⟨w.heap.size + 2, 0, none⟩) (by simp) x⟩
          have HM9 := hide hmap9
          clear hTB9 hTE9 hb9 hOB9 o0 of ol r0 rf rl g0' hm9 hmap9
          go_wp2_with fail
          exact bodyPost_ret (v := .tuple #[.agg #[.slice a9 m9 c9], .int .i64 2]) (by simp [results, Tryz.results28, go_sem, z0, zl]) rfl ⟨_, by rw [HRE.out], ⟨ps9, (HFE.out _).1, by rw [HM9.out, HRE.out]⟩, (HFE.out _).2⟩
        · have h16i : ¬ (mo : Int) ≥ 16 := by omega
          have HRE : Hid (R = (qs.map Prod.fst ++ [ns], 0)) := by rw [← HFR.out, HFN.out, ← HRP.out, if_neg (by rw [List.length_map, HML.out]; exact h16)]; trivial
          obtain ⟨q1, q2, q3, q4⟩ := HCV.out Y HOBY.out.chg
          obtain ⟨Z, hZ⟩ : ∃ x, Y.alloc (Obj.cells #[.int .i64 client, .string tag, .string query, .int .i64 page, .int .i64 1, .slice none 0 0, .int .i64 0] 51) = x := ⟨_, rfl⟩
          have bZ : Below Y.heap.size Y Z := by rw [← hZ]; exact (Below.refl _ _).alloc (Nat.le_refl _) _
          have oZ : Box Z Y.heap.size 51 #[.int .i64 client, .string tag, .string query, .int .i64 page, .int .i64 1, .slice none 0 0, .int .i64 0] := by rw [← hZ]; exact Box.new _ _ _
          have hOBZ := HOBY.out.below bZ
          have hTEZ := HTEY.out.below bZ
          obtain ⟨a8, c8, w8, hr8', hT8, ho8⟩ := hTEZ.new (n := mo) ns HSN.out (by rw [HNS.out]) (by have := HOBY.out.out.lt; have := bZ.size; have := HBB.out; omega) HML.out (by omega)
          rw [HNS.out] at hr8'
          have hr8 : (Builtin.append_ #[22, 22] 22 #[.slice ao mo co, .slice (some ⟨Z.heap.size, 0, none⟩) 1 1]).run Tryz.prog (Z.alloc (.cells #[.int .i64 client, .string tag, .string query, .int .i64 page, .int .i64 1, .slice none 0 0, .int .i64 0] 51)) = .ok (.slice a8 (mo + 1) c8) w8 := hr8'
          have hOB8 := hOBZ.only ho8 (fun b hb => ⟨(hTEZ.row.own b hb).1, fun e => hTEZ.apart hOBZ.out (by decide) (by decide) (.inl (by rw [← e]; simpa using hb))⟩)
          obtain ⟨_, p0, pf, pl, _, _, _⟩ := hOB8.cells
          have hOB9 := hOB8.set (.slice a8 (mo + 1) c8)
          have hT9 := hT8.setBox (o := 0) hOB8.out (.slice a8 (mo + 1) c8)
          obtain ⟨X9, hX9⟩ : ∃ x, w8.setCell ⟨B, 0, none⟩ (.slice a8 (mo + 1) c8) = x := ⟨_, rfl⟩
          rw [hX9] at hOB9 hT9
          have HFE : Hid (∀ x, TE (w.heap.size + 3) (X9.setCell ⟨w.heap.size + 2, 0, none⟩ x) (.slice a8 (mo + 1) c8) (qs ++ [(ns, .slice none 0 0)]) ∧ Below w.heap.size w (X9.setCell ⟨w.heap.size + 2, 0, none⟩ x)) := fun x => ⟨hT9.setBox hOB9.res x, hOB9.bel.setCell (p := ⟨w.heap.size + 2, 0, none⟩) (by simp) x⟩
          have HOB9 := hide hOB9
          have HOBZ := hide hOBZ
          have HOZ := hide oZ
          have HZ := hide hZ
          clear hOBZ hTEZ hr8' hT8 ho8 hOB8 hOB9 hT9 bZ oZ hZ
          go_upto_region 15 with fail
          (try rw [HZ.out])
          clear o0 of ol r0 rf rl q1 q2 q3 q4
          obtain ⟨_, o0, of, ol, _, _, _⟩ := HOBZ.out.cells
          have k0 : Z.cell? ⟨Y.heap.size, 0, none⟩ = some (.int .i64 client) := HOZ.out.cell 0 (by simp)
          have k1 : Z.cell? ⟨Y.heap.size, 1, none⟩ = some (.string tag) := HOZ.out.cell 1 (by simp)
          have k2 : Z.cell? ⟨Y.heap.size, 2, none⟩ = some (.string query) := HOZ.out.cell 2 (by simp)
          have k3 : Z.cell? ⟨Y.heap.size, 3, none⟩ = some (.int .i64 page) := HOZ.out.cell 3 (by simp)
          have k4 : Z.cell? ⟨Y.heap.size, 4, none⟩ = some (.int .i64 1) := HOZ.out.cell 4 (by simp)
          have k5 : Z.cell? ⟨Y.heap.size, 5, none⟩ = some (.slice none 0 0) := HOZ.out.cell 5 (by simp)
          have k6 : Z.cell? ⟨Y.heap.size, 6, none⟩ = some (.int .i64 0) := HOZ.out.cell 6 (by simp)
          go_upto_region 16 with (first | (at_builtin; refine wpList_app rfl _ _ 22 rfl hr8 (by first | rfl | simp [Act.eval, Act.put]) (by first | rfl | simp [Act.eval, Act.put]) ?_))
          (try rw [hX9])
          clear hX9 o0 of ol k0 k1 k2 k3 k4 k5 k6 p0 pf pl hr8
          obtain ⟨_, o0, _, _, z0, zf, zl⟩ := HOB9.out.cells
          go_wp2_with fail
          skip
          exact bodyPost_ret (v := .tuple #[.agg #[.slice a8 (mo + 1) c8], .int .i64 0]) (by simp [results, Tryz.results28, go_sem, z0, zl]) rfl ⟨_, by rw [HRE.out], ⟨_, (HFE.out _).1, by rw [HRE.out, List.map_append]; rfl⟩, (HFE.out _).2⟩
end Go.Proofs.YtpmnepalchgcbaaGreatDoor.Msg

namespace Go.Proofs.YtpmnepalchgcbaaGreatDoor.Msg
open Go.ChangeShapes Go.WideShapes Go.ChangeAt Go.RowKit
set_option linter.unusedVariables false
set_option linter.unusedSimpArgs false

/-! a session of an owned table is written anew -/
def put7 (w : World) (g p : Nat) (s : Sess) (u : Value) : World := ((((((w.setCell ⟨g, p, none⟩ (.int .i64 s.client)).setCell ⟨g, p + 1, none⟩ (.string s.tag)).setCell ⟨g, p + 2, none⟩ (.string s.query)).setCell ⟨g, p + 3, none⟩ (.int .i64 s.page)).setCell ⟨g, p + 4, none⟩ (.int .i64 s.state)).setCell ⟨g, p + 5, none⟩ (u)).setCell ⟨g, p + 6, none⟩ (.int .i64 s.cursor)
theorem put7_only (w : World) (g p : Nat) (s : Sess) (u : Value) : Only [g] w (put7 w g p s u) := ((((((((Only.refl _ _).setCell (by simp) _).setCell (by simp) _).setCell (by simp) _).setCell (by simp) _).setCell (by simp) _).setCell (by simp) _).setCell (by simp) _)
theorem FB.put7 {base : Nat} {w : World} {g n cap : Nat} {ys : List (Sess × Value)} (h : FB tsC 7 51 base w (.slice (some ⟨g, 0, none⟩) n cap) ys) {i : Nat} (hi : i < ys.length) (s : Sess) (u : Value) {p : Nat} (hp : i * 7 = p) :
    FB tsC 7 51 base (put7 w g p s u) (.slice (some ⟨g, 0, none⟩) n cap) (ys.set i (s, u)) := by
  subst hp
  obtain ⟨hlen, ⟨e, h0⟩ | ⟨g', cap', cur, e, hg, hs, hcap, hm, hsz, htk⟩⟩ := h
  · cases e
  · injection e with e1 e2 e3
    injection e1 with e1
    injection e1 with e1 _ _
    subst e1 e3
    have hB : Box w g 51 cur := hs
    have h4 := (((((((hB.set (i * 7) (.int .i64 s.client)).set (i * 7 + 1) (.string s.tag)).set (i * 7 + 2) (.string s.query)).set (i * 7 + 3) (.int .i64 s.page)).set (i * 7 + 4) (.int .i64 s.state)).set (i * 7 + 5) u).set (i * 7 + 6) (.int .i64 s.cursor))
    refine ⟨by rw [flat_len tsC_len], .inr ⟨g, cap, _, by rw [List.length_set, ← e2], hg, h4, by rw [List.length_set]; exact hcap, hm, by simp [hsz], ?_⟩⟩
    rw [List.length_set]
    have hi4 : (i + 1) * 7 ≤ ys.length * 7 := Nat.mul_le_mul_right 7 hi
    apply List.ext_getElem?
    intro m
    by_cases hmn : m < ys.length * 7
    · have hq : m / 7 < ys.length := (Nat.div_lt_iff_lt_mul (by omega)).2 hmn
      have hr : m % 7 < 7 := Nat.mod_lt _ (by omega)
      have em : m / 7 * 7 + m % 7 = m := Nat.div_add_mod' m 7
      have hold := flat_get tsC_len ys (m / 7) (m % 7) hq hr
      rw [em, ← htk, List.getElem?_take, if_pos hmn, Array.getElem?_toList] at hold
      have hnew := flat_get tsC_len (ys.set i (s, u)) (m / 7) (m % 7) (by rw [List.length_set]; exact hq) hr
      rw [em] at hnew
      rw [hnew, List.getElem?_take, if_pos hmn, Array.getElem?_toList]
      have hms : m < cur.size := by rw [hsz]; omega
      simp only [Array.getElem?_setIfInBounds, Array.size_setIfInBounds]
      by_cases hmi : m / 7 = i
      · have e5 : (ys.set i (s, u))[m / 7]'(by rw [List.length_set]; exact hq) = (s, u) := by simp [hmi]
        simp only [e5]
        rcases (show m % 7 = 0 ∨ m % 7 = 1 ∨ m % 7 = 2 ∨ m % 7 = 3 ∨ m % 7 = 4 ∨ m % 7 = 5 ∨ m % 7 = 6 by omega) with h | h | h | h | h | h | h
        · have hm' : m = i * 7 := by omega
          simp [hm', tsC]
          omega
        · have hm' : m = i * 7 + 1 := by omega
          simp [hm', tsC, show (i * 7 + 1) % 7 = 1 by omega]
          omega
        · have hm' : m = i * 7 + 2 := by omega
          simp [hm', tsC, show (i * 7 + 2) % 7 = 2 by omega]
          omega
        · have hm' : m = i * 7 + 3 := by omega
          simp [hm', tsC, show (i * 7 + 3) % 7 = 3 by omega]
          omega
        · have hm' : m = i * 7 + 4 := by omega
          simp [hm', tsC, show (i * 7 + 4) % 7 = 4 by omega]
          omega
        · have hm' : m = i * 7 + 5 := by omega
          simp [hm', tsC, show (i * 7 + 5) % 7 = 5 by omega]
          omega
        · have hm' : m = i * 7 + 6 := by omega
          simp [hm', tsC, show (i * 7 + 6) % 7 = 6 by omega]
          omega
      · have e5 : (ys.set i (s, u))[m / 7]'(by rw [List.length_set]; exact hq) = ys[m / 7] := by rw [List.getElem_set_ne (Ne.symm hmi)]
        simp only [e5]
        rw [if_neg (by omega), if_neg (by omega), if_neg (by omega), if_neg (by omega), if_neg (by omega), if_neg (by omega), if_neg (by omega)]
        exact hold
    · rw [List.getElem?_eq_none (by simp; omega), List.getElem?_eq_none (by rw [flat_len tsC_len, List.length_set]; omega)]
theorem FB.off0 {α : Type} {C : α → List Value} {c : Nat} {e : TypeId} {base : Nat} {w : World} {b off n cap : Nat} {xs : List α} (h : FB C c e base w (.slice (some ⟨b, off, none⟩) n cap) xs) : off = 0 := by
  obtain ⟨_, ⟨e1, _⟩ | ⟨g, cap', cur, e1, _⟩⟩ := h
  · cases e1
  · injection e1 with e1 _ _
    injection e1 with e1
    injection e1 with _ e1 _
/-- nodup, and the place's own block -/
theorem nd_set {ps : List (Sess × Value)} (h : ((ps.map (·.2)).filterMap Value.ownBlock).Nodup) {i : Nat} (hi : i < ps.length) (p : Sess × Value) (hn : ∀ b, p.2.ownBlock = some b → ∀ j (hj : j < ps.length), j ≠ i → ps[j].2.ownBlock ≠ some b) : (((ps.set i p).map (·.2)).filterMap Value.ownBlock).Nodup := by
  have e1 : ps.set i p = ps.take i ++ p :: ps.drop (i + 1) := by rw [List.set_eq_take_append_cons_drop, if_pos hi]
  have e2 : ps = ps.take i ++ ps[i] :: ps.drop (i + 1) := by rw [List.getElem_cons_drop, List.take_append_drop]
  have ht : ∀ q ∈ ps.take i, ∃ j, ∃ hj : j < ps.length, j ≠ i ∧ ps[j] = q := fun q hq => by
    obtain ⟨j, hj, rfl⟩ := List.mem_iff_getElem.1 hq
    rw [List.length_take] at hj
    exact ⟨j, by omega, by omega, by rw [List.getElem_take]⟩
  have hd : ∀ q ∈ ps.drop (i + 1), ∃ j, ∃ hj : j < ps.length, j ≠ i ∧ ps[j] = q := fun q hq => by
    obtain ⟨j, hj, rfl⟩ := List.mem_iff_getElem.1 hq
    rw [List.length_drop] at hj
    exact ⟨i + 1 + j, by omega, by omega, by rw [List.getElem_drop]⟩
  rw [e2, List.map_append, List.filterMap_append, List.map_cons] at h
  rw [e1, List.map_append, List.filterMap_append, List.map_cons]
  obtain ⟨h1, h2, h3⟩ := List.nodup_append.1 h
  have h2' : (((ps.drop (i + 1)).map (·.2)).filterMap Value.ownBlock).Nodup := by
    rw [List.filterMap_cons] at h2
    split at h2
    · exact h2
    · exact (List.nodup_cons.1 h2).2
  have h3' : ∀ a ∈ ((ps.take i).map (·.2)).filterMap Value.ownBlock, ∀ b ∈ ((ps.drop (i + 1)).map (·.2)).filterMap Value.ownBlock, a ≠ b := fun a ha b hb => h3 a ha b (by
    rw [List.filterMap_cons]
    split
    · exact hb
    · exact List.mem_cons_of_mem _ hb)
  cases hp : p.2.ownBlock with
  | none =>
    rw [List.filterMap_cons_none hp]
    exact List.nodup_append.2 ⟨h1, h2', h3'⟩
  | some b =>
    rw [List.filterMap_cons_some hp]
    refine List.nodup_append.2 ⟨h1, List.nodup_cons.2 ⟨fun hm => ?_, h2'⟩, fun a ha c hc => ?_⟩
    · obtain ⟨x, hx, e⟩ := List.mem_filterMap.1 hm
      obtain ⟨q, hq, rfl⟩ := List.mem_map.1 hx
      obtain ⟨j, hj, hne, rfl⟩ := hd q hq
      exact hn b hp j hj hne e
    · rcases List.mem_cons.1 hc with rfl | hc
      · rintro rfl
        obtain ⟨x, hx, e⟩ := List.mem_filterMap.1 ha
        obtain ⟨q, hq, rfl⟩ := List.mem_map.1 hx
        obtain ⟨j, hj, hne, rfl⟩ := ht q hq
        exact hn _ hp j hj hne e
      · exact h3' a ha c hc
theorem nd_at {ps : List (Sess × Value)} (h : ((ps.map (·.2)).filterMap Value.ownBlock).Nodup) {i j : Nat} (hi : i < ps.length) (hj : j < ps.length) (hne : j ≠ i) {b : Nat} (hb : ps[i].2.ownBlock = some b) : ps[j].2.ownBlock ≠ some b := by
  intro e
  have key : ∀ (i j : Nat) (hi : i < ps.length) (hj : j < ps.length), j < i → ps[i].2.ownBlock = some b → ps[j].2.ownBlock = some b → False := fun i j hi hj hlt h1 h2 => by
    have e2 : ps = ps.take i ++ ps[i] :: ps.drop (i + 1) := by rw [List.getElem_cons_drop, List.take_append_drop]
    rw [e2, List.map_append, List.filterMap_append, List.map_cons, List.filterMap_cons_some h1] at h
    refine (List.nodup_append.1 h).2.2 b (List.mem_filterMap.2 ⟨ps[j].2, List.mem_map.2 ⟨ps[j], ?_, rfl⟩, h2⟩) b (List.mem_cons_self ..) rfl
    rw [List.mem_take_iff_getElem]
    exact ⟨j, by omega, rfl⟩
  rcases Nat.lt_or_ge j i with hlt | hge
  · exact key i j hi hj hlt hb e
  · exact key j i hj hi (by omega) e hb
/-- the session at a place is another: its rows lie in the old one's block or in a new one -/
theorem TE.put {base : Nat} {X Y : World} {g n cap : Nat} {ps : List (Sess × Value)} (h : TE base X (.slice (some ⟨g, 0, none⟩) n cap) ps) {i : Nat} (hi : i < ps.length) (s : Sess) (u : Value) (hs : SmS s) (hs0 : X.heap.size ≤ Y.heap.size)
    (hY : ∀ b, b < X.heap.size → ps[i].2.ownBlock ≠ some b → Y.heap[b]? = X.heap[b]?) (hF : FB tC 1 9 base Y u s.rows) (hu : ∀ b, u.ownBlock = some b → ps[i].2.ownBlock = some b ∨ X.heap.size ≤ b) {p : Nat} (hp : i * 7 = p) :
    TE base (Msg.put7 Y g p s u) (.slice (some ⟨g, 0, none⟩) n cap) (ps.set i (s, u)) := by
  have hg := h.row.own g (by simp [Value.ownBlock])
  have hgb := h.row.blk (b := g) (by simp [Value.ownBlock])
  have hng : ∀ p ∈ ps, p.2.ownBlock ≠ some g := fun p hp e => by
    obtain ⟨c1, e1⟩ := hgb
    obtain ⟨c2, e2⟩ := (h.els p hp).2.blk e
    rw [e1] at e2
    injection e2 with e2
    injection e2 with _ e2 _
    exact absurd e2 (by decide)
  have hrow : FB tsC 7 51 base Y (.slice (some ⟨g, 0, none⟩) n cap) ps := h.row.keep fun b hb => by
    have e : b = g := by simpa [Value.ownBlock, eq_comm] using hb
    rw [e]
    exact hY g hg.2 (hng _ (List.getElem_mem hi))
  have hput := put7_only Y g p s u
  have hug : u.ownBlock ≠ some g := fun e => by
    rcases hu g e with h1 | h1
    · exact hng _ (List.getElem_mem hi) h1
    · omega
  refine ⟨hrow.put7 hi s u hp, fun q hq => ?_, nd_set h.nd hi (s, u) fun b hb j hj hne e => ?_⟩
  · obtain ⟨j, hj, rfl⟩ := List.mem_iff_getElem.1 hq
    rw [List.length_set] at hj
    by_cases hji : j = i
    · subst hji
      rw [List.getElem_set_self]
      exact ⟨hs, hF.only hput fun b hb hm => hug (by rw [List.mem_singleton.1 hm] at hb; simpa using hb)⟩
    · rw [List.getElem_set_ne (Ne.symm hji)]
      have he := h.els ps[j] (List.getElem_mem hj)
      refine ⟨he.1, (he.2.keep fun b hb => hY b (he.2.own b hb).2 fun e => nd_at h.nd hi hj hji e (by simpa using hb)).only hput fun b hb hm => hng _ (List.getElem_mem hj) (by rw [List.mem_singleton.1 hm] at hb; simpa using hb)⟩
  · rcases hu b hb with h1 | h1
    · exact nd_at h.nd hi hj hne h1 e
    · have := ((h.els ps[j] (List.getElem_mem hj)).2.own b (by rw [e]; simp)).2
      omega
end Go.Proofs.YtpmnepalchgcbaaGreatDoor.Msg
