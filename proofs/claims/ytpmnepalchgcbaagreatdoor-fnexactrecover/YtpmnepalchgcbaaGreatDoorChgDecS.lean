import Derived.Test.YtpmnepalchgcbaaGreatDoorChgDecI2
import Derived.Test.YtpmnepalchgcbaaGreatDoorRcvPurewithRcvFailwithChgEncS
import Derived.Test.YtpmnepalchgcbaaGreatDoorParseDatawithCutPurewithParseCut
namespace Go.Proofs.YtpmnepalchgcbaaGreatDoor.Msg
open Go.ChangeShapes Go.WideShapes Go.ChangeAt Go.RowKit
set_option linter.unusedVariables false
set_option linter.unusedSimpArgs false

theorem decS_results {tmps : Array Value} {b : Nat} {W : World} {k0 k1 k4 k6 : Int} {t2 t3 : ByteArray} {ad : Option Addr} {ln cp : Nat} {x : Bool} (h2 : tmps[2]? = some (.pointer (some ⟨b, 0, none⟩))) (h3 : tmps[3]? = some (.bool x))
    (s : W.cell? ⟨b, 0, none⟩ = some (.int .i64 k0) ∧ W.cell? ⟨b, 1, none⟩ = some (.int .i64 k1) ∧ W.cell? ⟨b, 2, none⟩ = some (.string t2) ∧ W.cell? ⟨b, 3, none⟩ = some (.string t3) ∧ W.cell? ⟨b, 4, none⟩ = some (.int .i64 k4) ∧ W.cell? ⟨b, 5, none⟩ = some (.slice ad ln cp) ∧ W.cell? ⟨b, 6, none⟩ = some (.int .i64 k6)) :
    (results Tryz.f10 tmps).run Tryz.prog W = .ok (.tuple #[.agg #[.int .i64 k0, .int .i64 k1, .string t2, .string t3, .int .i64 k4, .slice ad ln cp, .int .i64 k6], .bool x]) W := by
  obtain ⟨s0, s1, s2, s3, s4, s5, s6⟩ := s
  simp [results, Tryz.results10, go_sem, h2, h3, s0, s1, s2, s3, s4, s5, s6]
theorem looseS_size (ps : List (List UInt8)) (h : ∀ q ∈ ps, q.length ≤ 1048576) : (looseS ps).tag.size ≤ 1048576 ∧ (looseS ps).query.size ≤ 1048576 := by
  refine ⟨atL_size h 2, ?_⟩
  show (if _ then _ else _ : ByteArray).size ≤ _
  split
  · exact atL_size h 3
  · exact Nat.zero_le _
theorem SBuf.parts {base : Nat} {w : World} {v : Value} {ps : List (List UInt8)} (hS : SBuf base w v (ps.map txt)) (h0 : 0 < ps.length) :
    ∃ g cap, v = .slice (some ⟨g, 0, none⟩) ps.length cap ∧ ps.length ≤ cap ∧ base ≤ g ∧ g < w.heap.size ∧ ∀ i (h : i < ps.length), w.cell? ⟨g, i, none⟩ = some (.string (txt ps[i])) ∧ w.frozen? ⟨g, i, none⟩ = false := by
  have h' : w.ownsRow base 9 1 v ((ps.map txt).map Value.string).length ((ps.map txt).map Value.string) := by rw [List.length_map]; exact hS
  rcases own_cells h' with ⟨e, _⟩ | ⟨g, cap, rfl, hg, hlt, hc⟩
  · have := List.map_eq_nil_iff.1 (List.map_eq_nil_iff.1 e); rw [this] at h0; simp at h0
  · refine ⟨g, cap, by simp, ?_, hg, hlt, fun i h => ?_⟩
    · obtain ⟨_, ⟨e, _⟩ | ⟨g', cap', cur, e, _, _, hcp, _⟩⟩ := hS
      · cases e
      · injection e with _ _ e; subst e; simpa using hcp
    · have := hc i (by simpa using h)
      simpa using this
theorem atL_lt {ps : List (List UInt8)} {i : Nat} (h : i < ps.length) : ps[i] = atL ps i := by unfold atL; simp [List.getD_eq_getElem?_getD, h]
/-- the parts behind the third, as a change's rows -/
theorem parts_rest {base : Nat} {w : World} {ps : List (List UInt8)} {g cap : Nat} (h3 : 3 ≤ ps.length) (hn : ps.length ≤ 1048577) (hz : ∀ q ∈ ps, q.length ≤ 1048576) (hg : base ≤ g) (hlt : g < w.heap.size) (hc : ∀ i (h : i < ps.length), w.cell? ⟨g, i, none⟩ = some (.string (txt ps[i])) ∧ w.frozen? ⟨g, i, none⟩ = false) :
    ∃ bs, OStrs w (.slice (some ⟨g, 3, none⟩) (ps.length - 3) (cap - 3)) ((ps.drop 3).map txt) bs ∧ bs.Nodup ∧ ∀ b ∈ bs, base ≤ b := by
  refine ⟨[g], ⟨by simp; omega, .inr ⟨g, 3, cap - 3, List.replicate (ps.length - 3) [], by simp, hlt, by simp, by simp, fun i hi h2 => ?_⟩⟩, by simp, by simp [hg]⟩
  have hi' : 3 + i < ps.length := by simp at hi; omega
  refine ⟨?_, ?_, ?_, ?_⟩
  · rw [Nat.mul_one, (hc (3 + i) hi').1]
    simp
  · rw [Nat.mul_one, (hc (3 + i) hi').2]
  · simp only [List.getElem_map, List.getElem_drop, txt_size]
    have := hz ps[3 + i] (List.getElem_mem _)
    omega
  · simp

/-- a change in a block of its own -/
def Box7 (W : World) (B : Nat) (k0 k1 : Int) (t2 t3 : ByteArray) (k4 : Int) (v5 : Value) (k6 : Int) : Prop := (W.cell? ⟨B, 0, none⟩ = some (.int .i64 k0) ∧ W.cell? ⟨B, 1, none⟩ = some (.int .i64 k1) ∧ W.cell? ⟨B, 2, none⟩ = some (.string t2) ∧ W.cell? ⟨B, 3, none⟩ = some (.string t3) ∧ W.cell? ⟨B, 4, none⟩ = some (.int .i64 k4) ∧ W.cell? ⟨B, 5, none⟩ = some (v5) ∧ W.cell? ⟨B, 6, none⟩ = some (.int .i64 k6)) ∧ (W.frozen? ⟨B, 0, none⟩ = false ∧ W.frozen? ⟨B, 1, none⟩ = false ∧ W.frozen? ⟨B, 2, none⟩ = false ∧ W.frozen? ⟨B, 3, none⟩ = false ∧ W.frozen? ⟨B, 4, none⟩ = false ∧ W.frozen? ⟨B, 5, none⟩ = false ∧ W.frozen? ⟨B, 6, none⟩ = false) ∧ B < W.heap.size
theorem Box7.keep {W W' : World} {B : Nat} {k0 k1 k4 k6 : Int} {t2 t3 : ByteArray} {v5 : Value} (h : Box7 W B k0 k1 t2 t3 k4 v5 k6) (hb : Below W.heap.size W W') : Box7 W' B k0 k1 t2 t3 k4 v5 k6 := by
  obtain ⟨⟨o0, o1, o2, o3, o4, o5, o6⟩, ⟨p0, p1, p2, p3, p4, p5, p6⟩, hz⟩ := h
  refine ⟨⟨?_, ?_, ?_, ?_, ?_, ?_, ?_⟩, ⟨?_, ?_, ?_, ?_, ?_, ?_, ?_⟩, Nat.lt_of_lt_of_le hz hb.size⟩
  all_goals first | (rw [hb.cell (by exact hz)]; assumption) | (rw [hb.frozen (by exact hz)]; assumption)
theorem Box7.of_alloc (v : World) (t : TypeId) (k0 k1 k4 k6 : Int) (t2 t3 : ByteArray) (v5 : Value) : Box7 (v.alloc (Obj.cells #[.int .i64 k0, .int .i64 k1, .string t2, .string t3, .int .i64 k4, v5, .int .i64 k6] t)) v.heap.size k0 k1 t2 t3 k4 v5 k6 := by
  obtain ⟨o0, o1, o2, o3, o4, o5, o6, p0, p1, p2, p3, p4, p5, p6, hz⟩ := keep7 (W := v) (X := v.alloc (Obj.cells #[.int .i64 k0, .int .i64 k1, .string t2, .string t3, .int .i64 k4, v5, .int .i64 k6] t)) (Below.refl _ _)
  exact ⟨⟨o0, o1, o2, o3, o4, o5, o6⟩, ⟨p0, p1, p2, p3, p4, p5, p6⟩, hz⟩
theorem Box7.of_set {X : World} {B : Nat} (hx : ∀ i, i < 7 → (∃ c, X.cell? ⟨B, i, none⟩ = some c) ∧ X.frozen? ⟨B, i, none⟩ = false) (hB : B < X.heap.size) (k0 k1 k4 k6 : Int) (t2 t3 : ByteArray) (ad : Option Addr) (ln cp : Nat) : Box7 (((((((X.setCell ⟨B, 0, none⟩ (.int .i64 k0)).setCell ⟨B, 1, none⟩ (.int .i64 k1)).setCell ⟨B, 2, none⟩ (.string t2)).setCell ⟨B, 3, none⟩ (.string t3)).setCell ⟨B, 4, none⟩ (.int .i64 k4)).setCell ⟨B, 5, none⟩ (.slice ad ln cp)).setCell ⟨B, 6, none⟩ (.int .i64 k6)) B k0 k1 t2 t3 k4 (.slice ad ln cp) k6 := by
  refine ⟨set7 (fun i hi => (hx i hi).1) k0 k1 k4 k6 t2 t3 ad ln cp, ?_, ?_⟩
  · simp only [World.frozen?_setCell]
    exact ⟨(hx 0 (by omega)).2, (hx 1 (by omega)).2, (hx 2 (by omega)).2, (hx 3 (by omega)).2, (hx 4 (by omega)).2, (hx 5 (by omega)).2, (hx 6 (by omega)).2⟩
  · simp only [Deep.nblk_setCell]
    exact hB
theorem Box7.set3 {W : World} {B : Nat} {k0 k1 k4 k6 : Int} {t2 t3 : ByteArray} {v5 : Value} (h : Box7 W B k0 k1 t2 t3 k4 v5 k6) (x : ByteArray) : Box7 (W.setCell ⟨B, 3, none⟩ (.string x)) B k0 k1 t2 x k4 v5 k6 := by
  obtain ⟨⟨o0, o1, o2, o3, o4, o5, o6⟩, hp, hz⟩ := h
  refine ⟨⟨?_, ?_, ?_, ?_, ?_, ?_, ?_⟩, by simpa only [World.frozen?_setCell] using hp, by rw [Deep.nblk_setCell]; exact hz⟩ <;> simp [sc_same, sc_other, o0, o1, o2, o3, o4, o5, o6]
theorem Box7.set4 {W : World} {B : Nat} {k0 k1 k4 k6 : Int} {t2 t3 : ByteArray} {v5 : Value} (h : Box7 W B k0 k1 t2 t3 k4 v5 k6) (x : Int) : Box7 (W.setCell ⟨B, 4, none⟩ (.int .i64 x)) B k0 k1 t2 t3 x v5 k6 := by
  obtain ⟨⟨o0, o1, o2, o3, o4, o5, o6⟩, hp, hz⟩ := h
  refine ⟨⟨?_, ?_, ?_, ?_, ?_, ?_, ?_⟩, by simpa only [World.frozen?_setCell] using hp, by rw [Deep.nblk_setCell]; exact hz⟩ <;> simp [sc_same, sc_other, o0, o1, o2, o3, o4, o5, o6]
theorem Box7.set5 {W : World} {B : Nat} {k0 k1 k4 k6 : Int} {t2 t3 : ByteArray} {v5 : Value} (h : Box7 W B k0 k1 t2 t3 k4 v5 k6) (x : Value) : Box7 (W.setCell ⟨B, 5, none⟩ (x)) B k0 k1 t2 t3 k4 x k6 := by
  obtain ⟨⟨o0, o1, o2, o3, o4, o5, o6⟩, hp, hz⟩ := h
  refine ⟨⟨?_, ?_, ?_, ?_, ?_, ?_, ?_⟩, by simpa only [World.frozen?_setCell] using hp, by rw [Deep.nblk_setCell]; exact hz⟩ <;> simp [sc_same, sc_other, o0, o1, o2, o3, o4, o5, o6]
theorem Box7.set6 {W : World} {B : Nat} {k0 k1 k4 k6 : Int} {t2 t3 : ByteArray} {v5 : Value} (h : Box7 W B k0 k1 t2 t3 k4 v5 k6) (x : Int) : Box7 (W.setCell ⟨B, 6, none⟩ (.int .i64 x)) B k0 k1 t2 t3 k4 v5 x := by
  obtain ⟨⟨o0, o1, o2, o3, o4, o5, o6⟩, hp, hz⟩ := h
  refine ⟨⟨?_, ?_, ?_, ?_, ?_, ?_, ?_⟩, by simpa only [World.frozen?_setCell] using hp, by rw [Deep.nblk_setCell]; exact hz⟩ <;> simp [sc_same, sc_other, o0, o1, o2, o3, o4, o5, o6]
theorem bne_text {E s : ByteArray} (heq : ¬ E = s) : (E.toList == s.toList) = false := by
  rw [beq_eq_false_iff_ne]
  intro h
  apply heq
  rw [ByteArray.toList_eq, ByteArray.toList_eq] at h
  have := congrArg txt h
  rwa [txt_of, txt_of] at this
theorem OChg.nil {c : Chg} (h : c.rows = []) (base : Nat) (w : World) : OChg base w c (.slice none 0 0) := ⟨[], ⟨by rw [h]; simp, .inl ⟨none, 0, rfl, h, rfl⟩⟩, by simp, by simp⟩
theorem keep7i {P : Prop} {W X : World} {c0 c1 c2 c3 c4 c5 c6 : Value} {t : TypeId} (h : Below (W.alloc (Obj.cells #[c0, c1, c2, c3, c4, c5, c6] t)).heap.size (W.alloc (Obj.cells #[c0, c1, c2, c3, c4, c5, c6] t)) X)
    (k : X.cell? ⟨W.heap.size, 0, none⟩ = some c0 → X.cell? ⟨W.heap.size, 1, none⟩ = some c1 → X.cell? ⟨W.heap.size, 2, none⟩ = some c2 → X.cell? ⟨W.heap.size, 3, none⟩ = some c3 → X.cell? ⟨W.heap.size, 4, none⟩ = some c4 → X.cell? ⟨W.heap.size, 5, none⟩ = some c5 → X.cell? ⟨W.heap.size, 6, none⟩ = some c6 → X.frozen? ⟨W.heap.size, 0, none⟩ = false → X.frozen? ⟨W.heap.size, 1, none⟩ = false → X.frozen? ⟨W.heap.size, 2, none⟩ = false → X.frozen? ⟨W.heap.size, 3, none⟩ = false → X.frozen? ⟨W.heap.size, 4, none⟩ = false → X.frozen? ⟨W.heap.size, 5, none⟩ = false → X.frozen? ⟨W.heap.size, 6, none⟩ = false → W.heap.size < X.heap.size → P) : P := by
  obtain ⟨o0, o1, o2, o3, o4, o5, o6, p0, p1, p2, p3, p4, p5, p6, hz⟩ := keep7 h
  exact k o0 o1 o2 o3 o4 o5 o6 p0 p1 p2 p3 p4 p5 p6 hz
theorem below7 {B b : Nat} {a w : World} (h : Below B a w) (hb : B ≤ b) (c0 c1 c2 c3 c4 c5 c6 : Value) : Below B a (((((((w.setCell ⟨b, 0, none⟩ c0).setCell ⟨b, 1, none⟩ c1).setCell ⟨b, 2, none⟩ c2).setCell ⟨b, 3, none⟩ c3).setCell ⟨b, 4, none⟩ c4).setCell ⟨b, 5, none⟩ c5).setCell ⟨b, 6, none⟩ c6) := by
  iterate 7 refine Below.setCell ?_ (by dsimp only; exact hb) _
  exact h
set_option maxRecDepth 100000 in
set_option maxHeartbeats 16000000 in
theorem decS_any (s : ByteArray) (w : World) (hs : s.size ≤ 1048576) :
    Calls Tryz.prog 10 #[.string s] w fun e w' => ∃ u, e = .returned (.tuple #[chgV (decR (decS s)).1 u, .bool (decR (decS s)).2]) ∧ OChg w.heap.size w' (decR (decS s)).1 u ∧ Below w.heap.size w w' := by
  obtain ⟨x0, hx0⟩ : ∃ x0, w.alloc (Obj.cells #[.int .i64 0, .int .i64 0, .string ⟨#[]⟩, .string ⟨#[]⟩, .int .i64 0, .slice none 0 0, .int .i64 0] 33) = x0 := ⟨_, rfl⟩
  have b0 : Below w.heap.size w x0 := by rw [← hx0]; exact (Below.refl _ _).alloc (Nat.le_refl _) _
  have s0 : x0.heap.size = w.heap.size + 1 := by rw [← hx0]; simp
  have KZ : Hid (∀ X, Below x0.heap.size x0 X → X.cell? ⟨w.heap.size, 0, none⟩ = some (.int .i64 0) ∧ X.cell? ⟨w.heap.size, 1, none⟩ = some (.int .i64 0) ∧ X.cell? ⟨w.heap.size, 2, none⟩ = some (.string ⟨#[]⟩) ∧ X.cell? ⟨w.heap.size, 3, none⟩ = some (.string ⟨#[]⟩) ∧ X.cell? ⟨w.heap.size, 4, none⟩ = some (.int .i64 0) ∧ X.cell? ⟨w.heap.size, 5, none⟩ = some (.slice none 0 0) ∧ X.cell? ⟨w.heap.size, 6, none⟩ = some (.int .i64 0) ∧ X.frozen? ⟨w.heap.size, 0, none⟩ = false ∧ X.frozen? ⟨w.heap.size, 1, none⟩ = false ∧ X.frozen? ⟨w.heap.size, 2, none⟩ = false ∧ X.frozen? ⟨w.heap.size, 3, none⟩ = false ∧ X.frozen? ⟨w.heap.size, 4, none⟩ = false ∧ X.frozen? ⟨w.heap.size, 5, none⟩ = false ∧ X.frozen? ⟨w.heap.size, 6, none⟩ = false ∧ w.heap.size < X.heap.size) := fun X h => keep7 (by rw [hx0]; exact h)
  have HX0 := hide hx0
  have HB0 := hide b0
  have HS0 := hide s0
  have hsl : s.data.toList.length = s.size := by simp
  have HCUT : Hid (Calls Tryz.prog 23 #[.string s, .int .u8 10] x0 fun e w' => ∃ u, e = .returned u ∧ SBuf x0.heap.size w' u ((cutL 10 s.data.toList).map txt) ∧ Below x0.heap.size x0 w') := cut_any s 10 x0 hs
  have hp0 := cutL_pos 10 s.data.toList
  have hpn := cutL_len 10 s.data.toList
  have hpz := cutL_sz 10 s.data.toList
  have HD : Hid (decS s = if (cutL 10 s.data.toList).length < 3 then none else if encB (looseS (cutL 10 s.data.toList)) = s then some (looseS (cutL 10 s.data.toList)) else none) := rfl
  obtain ⟨ps, hps⟩ : ∃ ps, cutL 10 s.data.toList = ps := ⟨_, rfl⟩
  rw [hps] at HD HCUT hp0 hpn hpz
  by_cases h3 : ps.length < 3
  · have HDD : Hid (decS s = none) := by show _ = _; rw [HD.out, if_pos h3]
    rw [HDD.out]
    have h3i : (ps.length : Int) < 3 := by omega
    clear hx0 b0 s0 hsl hps hpz
    go_enter Tryz.func10, Tryz.ntmps10
    go_wp2_with fail
    rw [HX0.out]
    refine HCUT.out.mono ?_
    rintro e v1 ⟨u1, rfl, hS1, hb1⟩
    obtain ⟨g, cap, rfl, _⟩ := hS1.parts hp0
    obtain ⟨z0, z1, z2, z3, z4, z5, z6, y0, y1, y2, y3, y4, y5, y6, hzw⟩ := KZ.out v1 hb1
    have HB1 := hide hb1
    clear hb1 hS1
    go_wp2_with fail
    refine bodyPost_ret (v := .tuple #[.agg #[.int .i64 0, .int .i64 0, .string ⟨#[]⟩, .string ⟨#[]⟩, .int .i64 0, .slice none 0 0, .int .i64 0], .bool false]) (decS_results rfl rfl (set7 (fun i hi => ?_) _ _ _ _ _ _ _ _ _)) rfl ⟨.slice none 0 0, rfl, OChg.zero _ _, ?_⟩
    · match i, hi with
      | 0, _ => exact ⟨_, z0⟩
      | 1, _ => exact ⟨_, z1⟩
      | 2, _ => exact ⟨_, z2⟩
      | 3, _ => exact ⟨_, z3⟩
      | 4, _ => exact ⟨_, z4⟩
      | 5, _ => exact ⟨_, z5⟩
      | 6, _ => exact ⟨_, z6⟩
    · iterate 7 refine Below.setCell ?_ (by dsimp only; exact Nat.le_refl _) _
      exact bjoin HB1.out HB0.out
  have h3i : ¬ (ps.length : Int) < 3 := by omega
  have hpz' : ∀ q ∈ ps, q.length ≤ 1048576 := fun q hq => by have := hpz q hq; omega
  have hls := looseS_size ps hpz'
  have HNU : Hid (∀ (j : Nat) (W : World), Calls Tryz.prog 24 #[.string (txt (atL ps j))] W fun e w' => e = .returned (.int .i64 (numS (atL ps j))) ∧ Below W.heap.size W w') := fun j W => by
    have := number_any (txt (atL ps j)) W (by have := atL_size hpz' j; omega)
    rw [txt_data] at this
    exact this
  have HLS : Hid (looseS ps = { kind := numS (atL ps 0), client := numS (atL ps 1), tag := txt (atL ps 2), query := if numS (atL ps 0) = 1 ∧ ps.length = 5 then txt (atL ps 3) else ⟨#[]⟩, page := if numS (atL ps 0) = 1 ∧ ps.length = 5 then numS (atL ps 4) else 0, rows := if numS (atL ps 0) = 2 then (ps.drop 3).map txt else [], n := if numS (atL ps 0) = 4 ∧ ps.length = 4 then numS (atL ps 3) else 0 }) := rfl
  obtain ⟨C, hC⟩ : ∃ C, looseS ps = C := ⟨_, rfl⟩
  rw [hC] at HD hls HLS
  have HEN := hide (fun u W (lo : Nat) hv => encS_any C u W (lo := lo) hls.1 hls.2 hv)
  have HD2 : Hid (decS s = if encB C = s then some C else none) := by show _ = _; rw [HD.out, if_neg h3]
  obtain ⟨E, hEE⟩ : ∃ E, encB C = E := ⟨_, rfl⟩
  rw [hEE] at HD2 HEN
  have U0 := hide (HNU.out 0)
  have U1 := hide (HNU.out 1)
  have U3 := hide (HNU.out 3)
  have U4 := hide (HNU.out 4)
  have HPZ := hide hpz'
  have HCELL : Hid (∀ (W : World) (g : Nat), (∀ i (h : i < ps.length), W.cell? ⟨g, i, none⟩ = some (.string (txt ps[i])) ∧ W.frozen? ⟨g, i, none⟩ = false) → W.cell? ⟨g, 0, none⟩ = some (.string (txt (atL ps 0))) ∧ W.cell? ⟨g, 1, none⟩ = some (.string (txt (atL ps 1))) ∧ W.cell? ⟨g, 2, none⟩ = some (.string (txt (atL ps 2))) ∧ (3 < ps.length → W.cell? ⟨g, 3, none⟩ = some (.string (txt (atL ps 3)))) ∧ (4 < ps.length → W.cell? ⟨g, 4, none⟩ = some (.string (txt (atL ps 4))))) := fun W g hc =>
    ⟨by rw [← atL_lt (by omega : 0 < ps.length)]; exact (hc 0 (by omega)).1, by rw [← atL_lt (by omega : 1 < ps.length)]; exact (hc 1 (by omega)).1, by rw [← atL_lt (by omega : 2 < ps.length)]; exact (hc 2 (by omega)).1, fun h => by rw [← atL_lt h]; exact (hc 3 h).1, fun h => by rw [← atL_lt h]; exact (hc 4 h).1⟩
  have hpn' : ps.length ≤ 1048577 := by omega
  clear HNU hEE HD hls hpz hpz' hps hx0 b0 s0 hsl hC
  obtain ⟨T0, hT0⟩ : ∃ T0, txt (atL ps 0) = T0 := ⟨_, rfl⟩
  obtain ⟨T1, hT1⟩ : ∃ T1, txt (atL ps 1) = T1 := ⟨_, rfl⟩
  obtain ⟨T2, hT2⟩ : ∃ T2, txt (atL ps 2) = T2 := ⟨_, rfl⟩
  obtain ⟨T3, hT3⟩ : ∃ T3, txt (atL ps 3) = T3 := ⟨_, rfl⟩
  obtain ⟨T4, hT4⟩ : ∃ T4, txt (atL ps 4) = T4 := ⟨_, rfl⟩
  obtain ⟨N0, hN0⟩ : ∃ N0, numS (atL ps 0) = N0 := ⟨_, rfl⟩
  obtain ⟨N1, hN1⟩ : ∃ N1, numS (atL ps 1) = N1 := ⟨_, rfl⟩
  obtain ⟨N3, hN3⟩ : ∃ N3, numS (atL ps 3) = N3 := ⟨_, rfl⟩
  obtain ⟨N4, hN4⟩ : ∃ N4, numS (atL ps 4) = N4 := ⟨_, rfl⟩
  rw [hT0, hT1, hT2, hT3, hT4] at HCELL
  rw [hT0, hN0] at U0
  rw [hT1, hN1] at U1
  rw [hT3, hN3] at U3
  rw [hT4, hN4] at U4
  rw [hT2, hT3, hN0, hN1, hN3, hN4] at HLS
  clear hT0 hT1 hT2 hT3 hT4 hN0 hN1 hN3 hN4
  go_enter Tryz.func10, Tryz.ntmps10
  go_wp2_with fail
  rw [HX0.out]
  refine HCUT.out.mono ?_
  rintro e v1 ⟨u1, rfl, hS1, hb1⟩
  obtain ⟨g, cap, rfl, hcap, hgb, hgl, hcs⟩ := hS1.parts hp0
  have HB1 := hide hb1
  have HCS := hide hcs
  have HGL := hide hgl
  have HGB := hide hgb
  clear hb1 hS1 hcs hgl hgb
  have KC : Hid (∀ X, Below v1.heap.size v1 X → X.cell? ⟨g, 0, none⟩ = some (.string T0) ∧ X.cell? ⟨g, 1, none⟩ = some (.string T1) ∧ X.cell? ⟨g, 2, none⟩ = some (.string T2) ∧ (3 < ps.length → X.cell? ⟨g, 3, none⟩ = some (.string T3)) ∧ (4 < ps.length → X.cell? ⟨g, 4, none⟩ = some (.string T4)) ∧ Below v1.heap.size v1 X) := fun X h => by
    obtain ⟨q0, q1, q2, q3, q4⟩ := HCELL.out X g (fun i hi => ⟨(h.cell (p := ⟨g, i, none⟩) HGL.out).trans (HCS.out i hi).1, (h.frozen (p := ⟨g, i, none⟩) HGL.out).trans (HCS.out i hi).2⟩)
    exact ⟨q0, q1, q2, q3, q4, h⟩
  have i0 : (0 : Int) < (ps.length : Int) := by omega
  have i1 : (1 : Int) < (ps.length : Int) := by omega
  have i2 : (2 : Int) < (ps.length : Int) := by omega
  have j0 : 0 < ps.length := by omega
  have j1 : 1 < ps.length := by omega
  have j2 : 2 < ps.length := by omega
  have KC3 : Hid (∀ X, Below v1.heap.size v1 X → X.cell? ⟨g, 0, none⟩ = some (.string T0) ∧ X.cell? ⟨g, 1, none⟩ = some (.string T1) ∧ X.cell? ⟨g, 2, none⟩ = some (.string T2) ∧ Below v1.heap.size v1 X) := fun X h => ⟨(KC.out X h).1, (KC.out X h).2.1, (KC.out X h).2.2.1, h⟩
  go_wp2_with fail
  obtain ⟨D, hwd⟩ : ∃ D, v1.drew = D := ⟨_, rfl⟩
  have hbd0 : Below v1.heap.size v1 v1.drew := (Below.refl _ _).drew
  have hD : Below v1.heap.size v1 D := by rw [← hwd]; exact hbd0
  go_region_held3 (fun X => X.cell? ⟨g, 0, none⟩ = some (.string T0) ∧ X.cell? ⟨g, 1, none⟩ = some (.string T1) ∧ X.cell? ⟨g, 2, none⟩ = some (.string T2) ∧ Below v1.heap.size v1 X)
    (first | with_reducible exact KC3.out _ hbd0 | with_reducible exact KC3.out _ hD | with_reducible exact KC3.out _ (hD.alloc hD.size _) | with_reducible exact KC3.out _ hB2 | with_reducible exact KC3.out _ (hB2.alloc hB2.size _) | with_reducible exact KC3.out _ hB3 | with_reducible exact KC3.out _ (hB3.alloc hB3.size _) | with_reducible exact KC3.out _ (below7 hB3 hD.size _ _ _ _ _ _ _) | with_reducible exact KC3.out _ (below7 hB3 hB2.size _ _ _ _ _ _ _))
    (first
      | (go_at_call 24; have _g := hB2; refine (U1.out _).mono ?_; rintro e v3 ⟨rfl, hb3⟩; have hB3 : Below v1.heap.size v1 v3 := bjoin hb3 (by first | with_reducible exact hB2 | with_reducible exact hB2.alloc hB2.size _); first | (refine keep7i (bjoin hb3 hb2) ?_; intro o0 o1 o2 o3 o4 o5 o6 p0 p1 p2 p3 p4 p5 p6 hzo) | (refine keep7i hb3 ?_; intro o0 o1 o2 o3 o4 o5 o6 p0 p1 p2 p3 p4 p5 p6 hzo) | skip)
      | (go_at_call 24; refine (U0.out _).mono ?_; rintro e v2 ⟨rfl, hb2⟩; have hB2 : Below v1.heap.size v1 v2 := bjoin hb2 (by first | with_reducible exact hD | with_reducible exact hD.alloc hD.size _)))
  -- TAIL
  · obtain ⟨W, hW⟩ : ∃ W, v3.alloc (Obj.cells #[.int .i64 N0, .int .i64 N1, .string T2, .string ⟨#[]⟩, .int .i64 0, .slice none 0 0, .int .i64 0] 33) = W := ⟨_, rfl⟩
    obtain ⟨B, hB⟩ : ∃ B, v3.heap.size = B := ⟨_, rfl⟩
    have hbx : Box7 W B N0 N1 T2 ⟨#[]⟩ 0 (.slice none 0 0) 0 := by rw [← hW, ← hB]; exact Box7.of_alloc v3 33 N0 N1 0 0 T2 ⟨#[]⟩ (.slice none 0 0)
    have hbw : Below v1.heap.size v1 W := by rw [← hW]; exact hB3.alloc hB3.size _
    have hbB : v1.heap.size ≤ B := by rw [← hB]; exact hB3.size
    rw [hW, hB]
    have HBX := hide hbx
    have HBW := hide hbw
    have HBB := hide hbB
    clear hW hB hbx hbw hbB hB3 hb3 hB2 hb2 hD hbd0 hwd
    have m4 : (3 : Int) ≤ (ps.length : Int) := by omega
    have m7 : (3 : Int) ≤ (cap : Int) := by omega
    by_cases c3 : cap = 3
    · subst c3
      have l3 : ps.length = 3 := by omega
      have l3i : ((ps.length - 3 : Nat) : Int) = 0 := by omega
      have l3b : ps.length - 3 = 0 := by omega
      have HREST : Hid (∀ X, Below v1.heap.size v1 X → ∃ bs, OStrs X (.slice (some ⟨g, 0, none⟩) 0 0) ((ps.drop 3).map txt) bs ∧ bs.Nodup ∧ ∀ b ∈ bs, x0.heap.size ≤ b) := fun X _ => by rw [List.drop_eq_nil_of_le (by omega)]; exact ⟨[], ⟨by simp, .inl ⟨_, _, rfl, rfl, rfl⟩⟩, by simp, by simp⟩
      by_cases k1 : N0 = 1
      · subst k1
        have l5 : ¬ ps.length = 5 := by omega
        have e5 : ¬ ((ps.length - 3 : Nat) : Int) = 2 := by omega
        have e5b : ¬ ps.length - 3 = 2 := by omega
        have HC : Hid (C = ⟨1, N1, T2, ⟨#[]⟩, 0, [], 0⟩) := by show _ = _; rw [HLS.out]; simp [l5]
        rw [HC.out] at HEN HD2
        unfold chgV at HEN
        dsimp only at HEN
        obtain ⟨q0, q1, q2, q3, q4, _⟩ := KC.out W HBW.out
        clear q0 q1 q2 q3 q4
        obtain ⟨⟨o0, o1, o2, o3, o4, o5, o6⟩, ⟨p0, p1, p2, p3, p4, p5, p6⟩, hzB⟩ := HBX.out
        go_wp2_with fail
        refine (HEN.out _ _ 0 ⟨by simp, .inl ⟨none, 0, rfl, rfl⟩⟩).mono ?_
        rintro e v6 ⟨rfl, hb6⟩
        have hx6 := (HBX.out).keep hb6
        have HV6 : Hid (Below v1.heap.size v1 v6) := bjoin hb6 (HBW.out)
        have HB06 : Hid (Below x0.heap.size x0 v6) := bjoin HV6.out HB1.out
        clear o0 o1 o2 o3 o4 o5 o6 p0 p1 p2 p3 p4 p5 p6 hzB hb6
        obtain ⟨z0, z1, z2, z3, z4, z5, z6, y0, y1, y2, y3, y4, y5, y6, hzw⟩ := KZ.out v6 HB06.out
        obtain ⟨⟨o0, o1, o2, o3, o4, o5, o6⟩, ⟨p0, p1, p2, p3, p4, p5, p6⟩, hzB⟩ := hx6
        by_cases heq : E = s
        · subst heq
          have HDD : Hid (decS E = some ⟨1, N1, T2, ⟨#[]⟩, 0, [], 0⟩) := by show _ = _; rw [HD2.out, if_pos rfl]
          have hne : ¬ w.heap.size = B := by have h1 := HBB.out; have h2 := HB1.out.size; have h3 := HS0.out; omega
          have hne2 : ¬ B = w.heap.size := fun h => hne h.symm
          go_wp2_with fail
          rw [HDD.out]
          refine bodyPost_ret (v := .tuple #[.agg #[.int .i64 1, .int .i64 N1, .string T2, .string ⟨#[]⟩, .int .i64 0, .slice none 0 0, .int .i64 0], .bool true]) (decS_results rfl rfl (set7 (fun i hi => ?_) _ _ _ _ _ _ _ _ _)) rfl ⟨.slice none 0 0, rfl, ?_, ?_⟩
          · match i, hi with
            | 0, _ => exact ⟨_, z0⟩
            | 1, _ => exact ⟨_, z1⟩
            | 2, _ => exact ⟨_, z2⟩
            | 3, _ => exact ⟨_, z3⟩
            | 4, _ => exact ⟨_, z4⟩
            | 5, _ => exact ⟨_, z5⟩
            | 6, _ => exact ⟨_, z6⟩
          · exact OChg.nil rfl _ _
          · iterate 7 refine Below.setCell ?_ (by dsimp only; exact Nat.le_refl _) _
            exact bjoin HB06.out HB0.out
        have hbe : (E.toList == s.toList) = false := bne_text heq
        have hbe2 : (E.toList != s.toList) = true := by rw [bne, hbe]; rfl
        have HDD : Hid (decS s = none) := by show _ = _; rw [HD2.out, if_neg heq]
        clear heq
        go_wp2_with fail
        rw [HDD.out]
        refine bodyPost_ret (v := .tuple #[.agg #[.int .i64 0, .int .i64 0, .string ⟨#[]⟩, .string ⟨#[]⟩, .int .i64 0, .slice none 0 0, .int .i64 0], .bool false]) (decS_results rfl rfl (set7 (fun i hi => ?_) _ _ _ _ _ _ _ _ _)) rfl ⟨.slice none 0 0, rfl, OChg.zero _ _, ?_⟩
        · match i, hi with
          | 0, _ => exact ⟨_, z0⟩
          | 1, _ => exact ⟨_, z1⟩
          | 2, _ => exact ⟨_, z2⟩
          | 3, _ => exact ⟨_, z3⟩
          | 4, _ => exact ⟨_, z4⟩
          | 5, _ => exact ⟨_, z5⟩
          | 6, _ => exact ⟨_, z6⟩
        · iterate 7 refine Below.setCell ?_ (by dsimp only; exact Nat.le_refl _) _
          exact bjoin HB06.out HB0.out
      have kb1 : (N0 == 1) = false := by simpa using k1
      by_cases k2 : N0 = 2
      · subst k2
        have HC : Hid (C = ⟨2, N1, T2, ⟨#[]⟩, 0, (ps.drop 3).map txt, 0⟩) := by show _ = _; rw [HLS.out]; simp []
        rw [HC.out] at HEN HD2
        unfold chgV at HEN
        dsimp only at HEN
        obtain ⟨q0, q1, q2, q3, q4, _⟩ := KC.out W HBW.out
        clear q0 q1 q2 q3 q4
        obtain ⟨⟨o0, o1, o2, o3, o4, o5, o6⟩, ⟨p0, p1, p2, p3, p4, p5, p6⟩, hzB⟩ := HBX.out
        have HRE := hide (HREST.out)
        go_wp2_with fail
        have hOY := HRE.out _ (Below.setCell HBW.out (p := ⟨B, 5, none⟩) HBB.out (.slice (some ⟨g, 0, none⟩) 0 0))
        refine (HEN.out _ _ x0.heap.size (OAt.toAt toAt_str hOY.choose_spec.1 hOY.choose_spec.2.2)).mono ?_
        rintro e v6 ⟨rfl, hb6⟩
        have hx6 := (HBX.out.set5 (.slice (some ⟨g, 0, none⟩) 0 0)).keep hb6
        have HV6 : Hid (Below v1.heap.size v1 v6) := bjoin hb6 (Below.setCell HBW.out (p := ⟨B, 5, none⟩) HBB.out _)
        have HB06 : Hid (Below x0.heap.size x0 v6) := bjoin HV6.out HB1.out
        have HO6 := hide (HRE.out v6 HV6.out)
        clear hOY
        clear o0 o1 o2 o3 o4 o5 o6 p0 p1 p2 p3 p4 p5 p6 hzB hb6
        obtain ⟨z0, z1, z2, z3, z4, z5, z6, y0, y1, y2, y3, y4, y5, y6, hzw⟩ := KZ.out v6 HB06.out
        obtain ⟨⟨o0, o1, o2, o3, o4, o5, o6⟩, ⟨p0, p1, p2, p3, p4, p5, p6⟩, hzB⟩ := hx6
        by_cases heq : E = s
        · subst heq
          have HDD : Hid (decS E = some ⟨2, N1, T2, ⟨#[]⟩, 0, (ps.drop 3).map txt, 0⟩) := by show _ = _; rw [HD2.out, if_pos rfl]
          have hne : ¬ w.heap.size = B := by have h1 := HBB.out; have h2 := HB1.out.size; have h3 := HS0.out; omega
          have hne2 : ¬ B = w.heap.size := fun h => hne h.symm
          go_wp2_with fail
          rw [HDD.out]
          refine bodyPost_ret (v := .tuple #[.agg #[.int .i64 2, .int .i64 N1, .string T2, .string ⟨#[]⟩, .int .i64 0, .slice (some ⟨g, 0, none⟩) 0 0, .int .i64 0], .bool true]) (decS_results rfl rfl (set7 (fun i hi => ?_) _ _ _ _ _ _ _ _ _)) rfl ⟨.slice (some ⟨g, 0, none⟩) 0 0, rfl, ?_, ?_⟩
          · match i, hi with
            | 0, _ => exact ⟨_, z0⟩
            | 1, _ => exact ⟨_, z1⟩
            | 2, _ => exact ⟨_, z2⟩
            | 3, _ => exact ⟨_, z3⟩
            | 4, _ => exact ⟨_, z4⟩
            | 5, _ => exact ⟨_, z5⟩
            | 6, _ => exact ⟨_, z6⟩
          · have hlt : w.heap.size < x0.heap.size := by have := HS0.out; omega
            refine OChg.mono (base := x0.heap.size) ?_ (Nat.le_of_lt hlt)
            iterate 7 refine OChg.set ?_ hlt _
            exact HO6.out
          · iterate 7 refine Below.setCell ?_ (by dsimp only; exact Nat.le_refl _) _
            exact bjoin HB06.out HB0.out
        have hbe : (E.toList == s.toList) = false := bne_text heq
        have hbe2 : (E.toList != s.toList) = true := by rw [bne, hbe]; rfl
        have HDD : Hid (decS s = none) := by show _ = _; rw [HD2.out, if_neg heq]
        clear heq
        go_wp2_with fail
        rw [HDD.out]
        refine bodyPost_ret (v := .tuple #[.agg #[.int .i64 0, .int .i64 0, .string ⟨#[]⟩, .string ⟨#[]⟩, .int .i64 0, .slice none 0 0, .int .i64 0], .bool false]) (decS_results rfl rfl (set7 (fun i hi => ?_) _ _ _ _ _ _ _ _ _)) rfl ⟨.slice none 0 0, rfl, OChg.zero _ _, ?_⟩
        · match i, hi with
          | 0, _ => exact ⟨_, z0⟩
          | 1, _ => exact ⟨_, z1⟩
          | 2, _ => exact ⟨_, z2⟩
          | 3, _ => exact ⟨_, z3⟩
          | 4, _ => exact ⟨_, z4⟩
          | 5, _ => exact ⟨_, z5⟩
          | 6, _ => exact ⟨_, z6⟩
        · iterate 7 refine Below.setCell ?_ (by dsimp only; exact Nat.le_refl _) _
          exact bjoin HB06.out HB0.out
      have kb2 : (N0 == 2) = false := by simpa using k2
      by_cases k4 : N0 = 4
      · subst k4
        have l4 : ¬ ps.length = 4 := by omega
        have e4 : ¬ ((ps.length - 3 : Nat) : Int) = 1 := by omega
        have e4b : ¬ ps.length - 3 = 1 := by omega
        have HC : Hid (C = ⟨4, N1, T2, ⟨#[]⟩, 0, [], 0⟩) := by show _ = _; rw [HLS.out]; simp [l4]
        rw [HC.out] at HEN HD2
        unfold chgV at HEN
        dsimp only at HEN
        obtain ⟨q0, q1, q2, q3, q4, _⟩ := KC.out W HBW.out
        clear q0 q1 q2 q3 q4
        obtain ⟨⟨o0, o1, o2, o3, o4, o5, o6⟩, ⟨p0, p1, p2, p3, p4, p5, p6⟩, hzB⟩ := HBX.out
        go_wp2_with fail
        refine (HEN.out _ _ 0 ⟨by simp, .inl ⟨none, 0, rfl, rfl⟩⟩).mono ?_
        rintro e v6 ⟨rfl, hb6⟩
        have hx6 := (HBX.out).keep hb6
        have HV6 : Hid (Below v1.heap.size v1 v6) := bjoin hb6 (HBW.out)
        have HB06 : Hid (Below x0.heap.size x0 v6) := bjoin HV6.out HB1.out
        clear o0 o1 o2 o3 o4 o5 o6 p0 p1 p2 p3 p4 p5 p6 hzB hb6
        obtain ⟨z0, z1, z2, z3, z4, z5, z6, y0, y1, y2, y3, y4, y5, y6, hzw⟩ := KZ.out v6 HB06.out
        obtain ⟨⟨o0, o1, o2, o3, o4, o5, o6⟩, ⟨p0, p1, p2, p3, p4, p5, p6⟩, hzB⟩ := hx6
        by_cases heq : E = s
        · subst heq
          have HDD : Hid (decS E = some ⟨4, N1, T2, ⟨#[]⟩, 0, [], 0⟩) := by show _ = _; rw [HD2.out, if_pos rfl]
          have hne : ¬ w.heap.size = B := by have h1 := HBB.out; have h2 := HB1.out.size; have h3 := HS0.out; omega
          have hne2 : ¬ B = w.heap.size := fun h => hne h.symm
          go_wp2_with fail
          rw [HDD.out]
          refine bodyPost_ret (v := .tuple #[.agg #[.int .i64 4, .int .i64 N1, .string T2, .string ⟨#[]⟩, .int .i64 0, .slice none 0 0, .int .i64 0], .bool true]) (decS_results rfl rfl (set7 (fun i hi => ?_) _ _ _ _ _ _ _ _ _)) rfl ⟨.slice none 0 0, rfl, ?_, ?_⟩
          · match i, hi with
            | 0, _ => exact ⟨_, z0⟩
            | 1, _ => exact ⟨_, z1⟩
            | 2, _ => exact ⟨_, z2⟩
            | 3, _ => exact ⟨_, z3⟩
            | 4, _ => exact ⟨_, z4⟩
            | 5, _ => exact ⟨_, z5⟩
            | 6, _ => exact ⟨_, z6⟩
          · exact OChg.nil rfl _ _
          · iterate 7 refine Below.setCell ?_ (by dsimp only; exact Nat.le_refl _) _
            exact bjoin HB06.out HB0.out
        have hbe : (E.toList == s.toList) = false := bne_text heq
        have hbe2 : (E.toList != s.toList) = true := by rw [bne, hbe]; rfl
        have HDD : Hid (decS s = none) := by show _ = _; rw [HD2.out, if_neg heq]
        clear heq
        go_wp2_with fail
        rw [HDD.out]
        refine bodyPost_ret (v := .tuple #[.agg #[.int .i64 0, .int .i64 0, .string ⟨#[]⟩, .string ⟨#[]⟩, .int .i64 0, .slice none 0 0, .int .i64 0], .bool false]) (decS_results rfl rfl (set7 (fun i hi => ?_) _ _ _ _ _ _ _ _ _)) rfl ⟨.slice none 0 0, rfl, OChg.zero _ _, ?_⟩
        · match i, hi with
          | 0, _ => exact ⟨_, z0⟩
          | 1, _ => exact ⟨_, z1⟩
          | 2, _ => exact ⟨_, z2⟩
          | 3, _ => exact ⟨_, z3⟩
          | 4, _ => exact ⟨_, z4⟩
          | 5, _ => exact ⟨_, z5⟩
          | 6, _ => exact ⟨_, z6⟩
        · iterate 7 refine Below.setCell ?_ (by dsimp only; exact Nat.le_refl _) _
          exact bjoin HB06.out HB0.out
      have kb4 : (N0 == 4) = false := by simpa using k4
      have HC : Hid (C = ⟨N0, N1, T2, ⟨#[]⟩, 0, [], 0⟩) := by show _ = _; rw [HLS.out]; simp [k1, k2, k4]
      rw [HC.out] at HEN HD2
      unfold chgV at HEN
      dsimp only at HEN
      obtain ⟨q0, q1, q2, q3, q4, _⟩ := KC.out W HBW.out
      clear q0 q1 q2 q3 q4
      obtain ⟨⟨o0, o1, o2, o3, o4, o5, o6⟩, ⟨p0, p1, p2, p3, p4, p5, p6⟩, hzB⟩ := HBX.out
      go_wp2_with fail
      refine (HEN.out _ _ 0 ⟨by simp, .inl ⟨none, 0, rfl, rfl⟩⟩).mono ?_
      rintro e v6 ⟨rfl, hb6⟩
      have hx6 := (HBX.out).keep hb6
      have HV6 : Hid (Below v1.heap.size v1 v6) := bjoin hb6 (HBW.out)
      have HB06 : Hid (Below x0.heap.size x0 v6) := bjoin HV6.out HB1.out
      clear o0 o1 o2 o3 o4 o5 o6 p0 p1 p2 p3 p4 p5 p6 hzB hb6
      obtain ⟨z0, z1, z2, z3, z4, z5, z6, y0, y1, y2, y3, y4, y5, y6, hzw⟩ := KZ.out v6 HB06.out
      obtain ⟨⟨o0, o1, o2, o3, o4, o5, o6⟩, ⟨p0, p1, p2, p3, p4, p5, p6⟩, hzB⟩ := hx6
      by_cases heq : E = s
      · subst heq
        have HDD : Hid (decS E = some ⟨N0, N1, T2, ⟨#[]⟩, 0, [], 0⟩) := by show _ = _; rw [HD2.out, if_pos rfl]
        have hne : ¬ w.heap.size = B := by have h1 := HBB.out; have h2 := HB1.out.size; have h3 := HS0.out; omega
        have hne2 : ¬ B = w.heap.size := fun h => hne h.symm
        go_wp2_with fail
        rw [HDD.out]
        refine bodyPost_ret (v := .tuple #[.agg #[.int .i64 N0, .int .i64 N1, .string T2, .string ⟨#[]⟩, .int .i64 0, .slice none 0 0, .int .i64 0], .bool true]) (decS_results rfl rfl (set7 (fun i hi => ?_) _ _ _ _ _ _ _ _ _)) rfl ⟨.slice none 0 0, rfl, ?_, ?_⟩
        · match i, hi with
          | 0, _ => exact ⟨_, z0⟩
          | 1, _ => exact ⟨_, z1⟩
          | 2, _ => exact ⟨_, z2⟩
          | 3, _ => exact ⟨_, z3⟩
          | 4, _ => exact ⟨_, z4⟩
          | 5, _ => exact ⟨_, z5⟩
          | 6, _ => exact ⟨_, z6⟩
        · exact OChg.nil rfl _ _
        · iterate 7 refine Below.setCell ?_ (by dsimp only; exact Nat.le_refl _) _
          exact bjoin HB06.out HB0.out
      have hbe : (E.toList == s.toList) = false := bne_text heq
      have hbe2 : (E.toList != s.toList) = true := by rw [bne, hbe]; rfl
      have HDD : Hid (decS s = none) := by show _ = _; rw [HD2.out, if_neg heq]
      clear heq
      go_wp2_with fail
      rw [HDD.out]
      refine bodyPost_ret (v := .tuple #[.agg #[.int .i64 0, .int .i64 0, .string ⟨#[]⟩, .string ⟨#[]⟩, .int .i64 0, .slice none 0 0, .int .i64 0], .bool false]) (decS_results rfl rfl (set7 (fun i hi => ?_) _ _ _ _ _ _ _ _ _)) rfl ⟨.slice none 0 0, rfl, OChg.zero _ _, ?_⟩
      · match i, hi with
        | 0, _ => exact ⟨_, z0⟩
        | 1, _ => exact ⟨_, z1⟩
        | 2, _ => exact ⟨_, z2⟩
        | 3, _ => exact ⟨_, z3⟩
        | 4, _ => exact ⟨_, z4⟩
        | 5, _ => exact ⟨_, z5⟩
        | 6, _ => exact ⟨_, z6⟩
      · iterate 7 refine Below.setCell ?_ (by dsimp only; exact Nat.le_refl _) _
        exact bjoin HB06.out HB0.out
    have HREST : Hid (∀ X, Below v1.heap.size v1 X → ∃ bs, OStrs X (.slice (some ⟨g, 3, none⟩) (ps.length - 3) (cap - 3)) ((ps.drop 3).map txt) bs ∧ bs.Nodup ∧ ∀ b ∈ bs, x0.heap.size ≤ b) := fun X hX => parts_rest (by omega) (by omega) HPZ.out HGB.out (Nat.lt_of_lt_of_le HGL.out hX.size) (fun i hi => ⟨(hX.cell (p := ⟨g, i, none⟩) HGL.out).trans (HCS.out i hi).1, (hX.frozen (p := ⟨g, i, none⟩) HGL.out).trans (HCS.out i hi).2⟩)
    by_cases k1 : N0 = 1
    · subst k1
      by_cases l5 : ps.length = 5
      · have e5 : ((ps.length - 3 : Nat) : Int) = 2 := by omega
        have e5b : ps.length - 3 = 2 := by omega
        have HC : Hid (C = ⟨1, N1, T2, T3, N4, [], 0⟩) := by show _ = _; rw [HLS.out]; simp [l5]
        rw [HC.out] at HEN HD2
        unfold chgV at HEN
        dsimp only at HEN
        obtain ⟨q0, q1, q2, q3, q4, _⟩ := KC.out W HBW.out
        have r3 := q3 (by omega)
        have r4 := q4 (by omega)
        clear q0 q1 q2 q3 q4
        obtain ⟨⟨o0, o1, o2, o3, o4, o5, o6⟩, ⟨p0, p1, p2, p3, p4, p5, p6⟩, hzB⟩ := HBX.out
        have hgB : ¬ B = g := by have h1 := HBB.out; have h2 := HGL.out; omega
        have r4s : (W.setCell ⟨B, 3, none⟩ (.string T3)).cell? ⟨g, 4, none⟩ = some (.string T4) := by rw [sc_far hgB]; exact r4
        go_wp2_with fail
        refine (U4.out _).mono ?_
        rintro e v5 ⟨rfl, hb5⟩
        have hx5 := (HBX.out.set3 T3).keep hb5
        have HX5 := hide hx5
        have HV5 : Hid (Below v1.heap.size v1 v5) := bjoin hb5 (Below.setCell HBW.out (p := ⟨B, 3, none⟩) HBB.out _)
        clear o0 o1 o2 o3 o4 o5 o6 p0 p1 p2 p3 p4 p5 p6 hzB hb5 r3 r4 r4s
        obtain ⟨⟨o0, o1, o2, o3, o4, o5, o6⟩, ⟨p0, p1, p2, p3, p4, p5, p6⟩, hzB⟩ := hx5
        go_wp2_with fail
        refine (HEN.out _ _ 0 ⟨by simp, .inl ⟨none, 0, rfl, rfl⟩⟩).mono ?_
        rintro e v6 ⟨rfl, hb6⟩
        have hx6 := (HX5.out.set4 N4).keep hb6
        have HV6 : Hid (Below v1.heap.size v1 v6) := bjoin hb6 (Below.setCell HV5.out (p := ⟨B, 4, none⟩) HBB.out _)
        have HB06 : Hid (Below x0.heap.size x0 v6) := bjoin HV6.out HB1.out
        clear o0 o1 o2 o3 o4 o5 o6 p0 p1 p2 p3 p4 p5 p6 hzB hb6
        obtain ⟨z0, z1, z2, z3, z4, z5, z6, y0, y1, y2, y3, y4, y5, y6, hzw⟩ := KZ.out v6 HB06.out
        obtain ⟨⟨o0, o1, o2, o3, o4, o5, o6⟩, ⟨p0, p1, p2, p3, p4, p5, p6⟩, hzB⟩ := hx6
        by_cases heq : E = s
        · subst heq
          have HDD : Hid (decS E = some ⟨1, N1, T2, T3, N4, [], 0⟩) := by show _ = _; rw [HD2.out, if_pos rfl]
          have hne : ¬ w.heap.size = B := by have h1 := HBB.out; have h2 := HB1.out.size; have h3 := HS0.out; omega
          have hne2 : ¬ B = w.heap.size := fun h => hne h.symm
          go_wp2_with fail
          rw [HDD.out]
          refine bodyPost_ret (v := .tuple #[.agg #[.int .i64 1, .int .i64 N1, .string T2, .string T3, .int .i64 N4, .slice none 0 0, .int .i64 0], .bool true]) (decS_results rfl rfl (set7 (fun i hi => ?_) _ _ _ _ _ _ _ _ _)) rfl ⟨.slice none 0 0, rfl, ?_, ?_⟩
          · match i, hi with
            | 0, _ => exact ⟨_, z0⟩
            | 1, _ => exact ⟨_, z1⟩
            | 2, _ => exact ⟨_, z2⟩
            | 3, _ => exact ⟨_, z3⟩
            | 4, _ => exact ⟨_, z4⟩
            | 5, _ => exact ⟨_, z5⟩
            | 6, _ => exact ⟨_, z6⟩
          · exact OChg.nil rfl _ _
          · iterate 7 refine Below.setCell ?_ (by dsimp only; exact Nat.le_refl _) _
            exact bjoin HB06.out HB0.out
        have hbe : (E.toList == s.toList) = false := bne_text heq
        have hbe2 : (E.toList != s.toList) = true := by rw [bne, hbe]; rfl
        have HDD : Hid (decS s = none) := by show _ = _; rw [HD2.out, if_neg heq]
        clear heq
        go_wp2_with fail
        rw [HDD.out]
        refine bodyPost_ret (v := .tuple #[.agg #[.int .i64 0, .int .i64 0, .string ⟨#[]⟩, .string ⟨#[]⟩, .int .i64 0, .slice none 0 0, .int .i64 0], .bool false]) (decS_results rfl rfl (set7 (fun i hi => ?_) _ _ _ _ _ _ _ _ _)) rfl ⟨.slice none 0 0, rfl, OChg.zero _ _, ?_⟩
        · match i, hi with
          | 0, _ => exact ⟨_, z0⟩
          | 1, _ => exact ⟨_, z1⟩
          | 2, _ => exact ⟨_, z2⟩
          | 3, _ => exact ⟨_, z3⟩
          | 4, _ => exact ⟨_, z4⟩
          | 5, _ => exact ⟨_, z5⟩
          | 6, _ => exact ⟨_, z6⟩
        · iterate 7 refine Below.setCell ?_ (by dsimp only; exact Nat.le_refl _) _
          exact bjoin HB06.out HB0.out
      have e5 : ¬ ((ps.length - 3 : Nat) : Int) = 2 := by omega
      have e5b : ¬ ps.length - 3 = 2 := by omega
      have HC : Hid (C = ⟨1, N1, T2, ⟨#[]⟩, 0, [], 0⟩) := by show _ = _; rw [HLS.out]; simp [l5]
      rw [HC.out] at HEN HD2
      unfold chgV at HEN
      dsimp only at HEN
      obtain ⟨q0, q1, q2, q3, q4, _⟩ := KC.out W HBW.out
      clear q0 q1 q2 q3 q4
      obtain ⟨⟨o0, o1, o2, o3, o4, o5, o6⟩, ⟨p0, p1, p2, p3, p4, p5, p6⟩, hzB⟩ := HBX.out
      go_wp2_with fail
      refine (HEN.out _ _ 0 ⟨by simp, .inl ⟨none, 0, rfl, rfl⟩⟩).mono ?_
      rintro e v6 ⟨rfl, hb6⟩
      have hx6 := (HBX.out).keep hb6
      have HV6 : Hid (Below v1.heap.size v1 v6) := bjoin hb6 (HBW.out)
      have HB06 : Hid (Below x0.heap.size x0 v6) := bjoin HV6.out HB1.out
      clear o0 o1 o2 o3 o4 o5 o6 p0 p1 p2 p3 p4 p5 p6 hzB hb6
      obtain ⟨z0, z1, z2, z3, z4, z5, z6, y0, y1, y2, y3, y4, y5, y6, hzw⟩ := KZ.out v6 HB06.out
      obtain ⟨⟨o0, o1, o2, o3, o4, o5, o6⟩, ⟨p0, p1, p2, p3, p4, p5, p6⟩, hzB⟩ := hx6
      by_cases heq : E = s
      · subst heq
        have HDD : Hid (decS E = some ⟨1, N1, T2, ⟨#[]⟩, 0, [], 0⟩) := by show _ = _; rw [HD2.out, if_pos rfl]
        have hne : ¬ w.heap.size = B := by have h1 := HBB.out; have h2 := HB1.out.size; have h3 := HS0.out; omega
        have hne2 : ¬ B = w.heap.size := fun h => hne h.symm
        go_wp2_with fail
        rw [HDD.out]
        refine bodyPost_ret (v := .tuple #[.agg #[.int .i64 1, .int .i64 N1, .string T2, .string ⟨#[]⟩, .int .i64 0, .slice none 0 0, .int .i64 0], .bool true]) (decS_results rfl rfl (set7 (fun i hi => ?_) _ _ _ _ _ _ _ _ _)) rfl ⟨.slice none 0 0, rfl, ?_, ?_⟩
        · match i, hi with
          | 0, _ => exact ⟨_, z0⟩
          | 1, _ => exact ⟨_, z1⟩
          | 2, _ => exact ⟨_, z2⟩
          | 3, _ => exact ⟨_, z3⟩
          | 4, _ => exact ⟨_, z4⟩
          | 5, _ => exact ⟨_, z5⟩
          | 6, _ => exact ⟨_, z6⟩
        · exact OChg.nil rfl _ _
        · iterate 7 refine Below.setCell ?_ (by dsimp only; exact Nat.le_refl _) _
          exact bjoin HB06.out HB0.out
      have hbe : (E.toList == s.toList) = false := bne_text heq
      have hbe2 : (E.toList != s.toList) = true := by rw [bne, hbe]; rfl
      have HDD : Hid (decS s = none) := by show _ = _; rw [HD2.out, if_neg heq]
      clear heq
      go_wp2_with fail
      rw [HDD.out]
      refine bodyPost_ret (v := .tuple #[.agg #[.int .i64 0, .int .i64 0, .string ⟨#[]⟩, .string ⟨#[]⟩, .int .i64 0, .slice none 0 0, .int .i64 0], .bool false]) (decS_results rfl rfl (set7 (fun i hi => ?_) _ _ _ _ _ _ _ _ _)) rfl ⟨.slice none 0 0, rfl, OChg.zero _ _, ?_⟩
      · match i, hi with
        | 0, _ => exact ⟨_, z0⟩
        | 1, _ => exact ⟨_, z1⟩
        | 2, _ => exact ⟨_, z2⟩
        | 3, _ => exact ⟨_, z3⟩
        | 4, _ => exact ⟨_, z4⟩
        | 5, _ => exact ⟨_, z5⟩
        | 6, _ => exact ⟨_, z6⟩
      · iterate 7 refine Below.setCell ?_ (by dsimp only; exact Nat.le_refl _) _
        exact bjoin HB06.out HB0.out
    have kb1 : (N0 == 1) = false := by simpa using k1
    by_cases k2 : N0 = 2
    · subst k2
      have HC : Hid (C = ⟨2, N1, T2, ⟨#[]⟩, 0, (ps.drop 3).map txt, 0⟩) := by show _ = _; rw [HLS.out]; simp []
      rw [HC.out] at HEN HD2
      unfold chgV at HEN
      dsimp only at HEN
      obtain ⟨q0, q1, q2, q3, q4, _⟩ := KC.out W HBW.out
      clear q0 q1 q2 q3 q4
      obtain ⟨⟨o0, o1, o2, o3, o4, o5, o6⟩, ⟨p0, p1, p2, p3, p4, p5, p6⟩, hzB⟩ := HBX.out
      have HRE := hide (HREST.out)
      go_wp2_with fail
      have hOY := HRE.out _ (Below.setCell HBW.out (p := ⟨B, 5, none⟩) HBB.out (.slice (some ⟨g, 3, none⟩) (ps.length - 3) (cap - 3)))
      refine (HEN.out _ _ x0.heap.size (OAt.toAt toAt_str hOY.choose_spec.1 hOY.choose_spec.2.2)).mono ?_
      rintro e v6 ⟨rfl, hb6⟩
      have hx6 := (HBX.out.set5 (.slice (some ⟨g, 3, none⟩) (ps.length - 3) (cap - 3))).keep hb6
      have HV6 : Hid (Below v1.heap.size v1 v6) := bjoin hb6 (Below.setCell HBW.out (p := ⟨B, 5, none⟩) HBB.out _)
      have HB06 : Hid (Below x0.heap.size x0 v6) := bjoin HV6.out HB1.out
      have HO6 := hide (HRE.out v6 HV6.out)
      clear hOY
      clear o0 o1 o2 o3 o4 o5 o6 p0 p1 p2 p3 p4 p5 p6 hzB hb6
      obtain ⟨z0, z1, z2, z3, z4, z5, z6, y0, y1, y2, y3, y4, y5, y6, hzw⟩ := KZ.out v6 HB06.out
      obtain ⟨⟨o0, o1, o2, o3, o4, o5, o6⟩, ⟨p0, p1, p2, p3, p4, p5, p6⟩, hzB⟩ := hx6
      by_cases heq : E = s
      · subst heq
        have HDD : Hid (decS E = some ⟨2, N1, T2, ⟨#[]⟩, 0, (ps.drop 3).map txt, 0⟩) := by show _ = _; rw [HD2.out, if_pos rfl]
        have hne : ¬ w.heap.size = B := by have h1 := HBB.out; have h2 := HB1.out.size; have h3 := HS0.out; omega
        have hne2 : ¬ B = w.heap.size := fun h => hne h.symm
        go_wp2_with fail
        rw [HDD.out]
        refine bodyPost_ret (v := .tuple #[.agg #[.int .i64 2, .int .i64 N1, .string T2, .string ⟨#[]⟩, .int .i64 0, .slice (some ⟨g, 3, none⟩) (ps.length - 3) (cap - 3), .int .i64 0], .bool true]) (decS_results rfl rfl (set7 (fun i hi => ?_) _ _ _ _ _ _ _ _ _)) rfl ⟨.slice (some ⟨g, 3, none⟩) (ps.length - 3) (cap - 3), rfl, ?_, ?_⟩
        · match i, hi with
          | 0, _ => exact ⟨_, z0⟩
          | 1, _ => exact ⟨_, z1⟩
          | 2, _ => exact ⟨_, z2⟩
          | 3, _ => exact ⟨_, z3⟩
          | 4, _ => exact ⟨_, z4⟩
          | 5, _ => exact ⟨_, z5⟩
          | 6, _ => exact ⟨_, z6⟩
        · have hlt : w.heap.size < x0.heap.size := by have := HS0.out; omega
          refine OChg.mono (base := x0.heap.size) ?_ (Nat.le_of_lt hlt)
          iterate 7 refine OChg.set ?_ hlt _
          exact HO6.out
        · iterate 7 refine Below.setCell ?_ (by dsimp only; exact Nat.le_refl _) _
          exact bjoin HB06.out HB0.out
      have hbe : (E.toList == s.toList) = false := bne_text heq
      have hbe2 : (E.toList != s.toList) = true := by rw [bne, hbe]; rfl
      have HDD : Hid (decS s = none) := by show _ = _; rw [HD2.out, if_neg heq]
      clear heq
      go_wp2_with fail
      rw [HDD.out]
      refine bodyPost_ret (v := .tuple #[.agg #[.int .i64 0, .int .i64 0, .string ⟨#[]⟩, .string ⟨#[]⟩, .int .i64 0, .slice none 0 0, .int .i64 0], .bool false]) (decS_results rfl rfl (set7 (fun i hi => ?_) _ _ _ _ _ _ _ _ _)) rfl ⟨.slice none 0 0, rfl, OChg.zero _ _, ?_⟩
      · match i, hi with
        | 0, _ => exact ⟨_, z0⟩
        | 1, _ => exact ⟨_, z1⟩
        | 2, _ => exact ⟨_, z2⟩
        | 3, _ => exact ⟨_, z3⟩
        | 4, _ => exact ⟨_, z4⟩
        | 5, _ => exact ⟨_, z5⟩
        | 6, _ => exact ⟨_, z6⟩
      · iterate 7 refine Below.setCell ?_ (by dsimp only; exact Nat.le_refl _) _
        exact bjoin HB06.out HB0.out
    have kb2 : (N0 == 2) = false := by simpa using k2
    by_cases k4 : N0 = 4
    · subst k4
      by_cases l4 : ps.length = 4
      · have e4 : ((ps.length - 3 : Nat) : Int) = 1 := by omega
        have e4b : ps.length - 3 = 1 := by omega
        have HC : Hid (C = ⟨4, N1, T2, ⟨#[]⟩, 0, [], N3⟩) := by show _ = _; rw [HLS.out]; simp [l4]
        rw [HC.out] at HEN HD2
        unfold chgV at HEN
        dsimp only at HEN
        obtain ⟨q0, q1, q2, q3, q4, _⟩ := KC.out W HBW.out
        have r3 := q3 (by omega)
        clear q0 q1 q2 q3 q4
        obtain ⟨⟨o0, o1, o2, o3, o4, o5, o6⟩, ⟨p0, p1, p2, p3, p4, p5, p6⟩, hzB⟩ := HBX.out
        go_wp2_with fail
        refine (U3.out _).mono ?_
        rintro e v5 ⟨rfl, hb5⟩
        have hx5 := (HBX.out).keep hb5
        have HX5 := hide hx5
        have HV5 : Hid (Below v1.heap.size v1 v5) := bjoin hb5 (HBW.out)
        clear o0 o1 o2 o3 o4 o5 o6 p0 p1 p2 p3 p4 p5 p6 hzB hb5 r3
        obtain ⟨⟨o0, o1, o2, o3, o4, o5, o6⟩, ⟨p0, p1, p2, p3, p4, p5, p6⟩, hzB⟩ := hx5
        go_wp2_with fail
        refine (HEN.out _ _ 0 ⟨by simp, .inl ⟨none, 0, rfl, rfl⟩⟩).mono ?_
        rintro e v6 ⟨rfl, hb6⟩
        have hx6 := (HX5.out.set6 N3).keep hb6
        have HV6 : Hid (Below v1.heap.size v1 v6) := bjoin hb6 (Below.setCell HV5.out (p := ⟨B, 6, none⟩) HBB.out _)
        have HB06 : Hid (Below x0.heap.size x0 v6) := bjoin HV6.out HB1.out
        clear o0 o1 o2 o3 o4 o5 o6 p0 p1 p2 p3 p4 p5 p6 hzB hb6
        obtain ⟨z0, z1, z2, z3, z4, z5, z6, y0, y1, y2, y3, y4, y5, y6, hzw⟩ := KZ.out v6 HB06.out
        obtain ⟨⟨o0, o1, o2, o3, o4, o5, o6⟩, ⟨p0, p1, p2, p3, p4, p5, p6⟩, hzB⟩ := hx6
        by_cases heq : E = s
        · subst heq
          have HDD : Hid (decS E = some ⟨4, N1, T2, ⟨#[]⟩, 0, [], N3⟩) := by show _ = _; rw [HD2.out, if_pos rfl]
          have hne : ¬ w.heap.size = B := by have h1 := HBB.out; have h2 := HB1.out.size; have h3 := HS0.out; omega
          have hne2 : ¬ B = w.heap.size := fun h => hne h.symm
          go_wp2_with fail
          rw [HDD.out]
          refine bodyPost_ret (v := .tuple #[.agg #[.int .i64 4, .int .i64 N1, .string T2, .string ⟨#[]⟩, .int .i64 0, .slice none 0 0, .int .i64 N3], .bool true]) (decS_results rfl rfl (set7 (fun i hi => ?_) _ _ _ _ _ _ _ _ _)) rfl ⟨.slice none 0 0, rfl, ?_, ?_⟩
          · match i, hi with
            | 0, _ => exact ⟨_, z0⟩
            | 1, _ => exact ⟨_, z1⟩
            | 2, _ => exact ⟨_, z2⟩
            | 3, _ => exact ⟨_, z3⟩
            | 4, _ => exact ⟨_, z4⟩
            | 5, _ => exact ⟨_, z5⟩
            | 6, _ => exact ⟨_, z6⟩
          · exact OChg.nil rfl _ _
          · iterate 7 refine Below.setCell ?_ (by dsimp only; exact Nat.le_refl _) _
            exact bjoin HB06.out HB0.out
        have hbe : (E.toList == s.toList) = false := bne_text heq
        have hbe2 : (E.toList != s.toList) = true := by rw [bne, hbe]; rfl
        have HDD : Hid (decS s = none) := by show _ = _; rw [HD2.out, if_neg heq]
        clear heq
        go_wp2_with fail
        rw [HDD.out]
        refine bodyPost_ret (v := .tuple #[.agg #[.int .i64 0, .int .i64 0, .string ⟨#[]⟩, .string ⟨#[]⟩, .int .i64 0, .slice none 0 0, .int .i64 0], .bool false]) (decS_results rfl rfl (set7 (fun i hi => ?_) _ _ _ _ _ _ _ _ _)) rfl ⟨.slice none 0 0, rfl, OChg.zero _ _, ?_⟩
        · match i, hi with
          | 0, _ => exact ⟨_, z0⟩
          | 1, _ => exact ⟨_, z1⟩
          | 2, _ => exact ⟨_, z2⟩
          | 3, _ => exact ⟨_, z3⟩
          | 4, _ => exact ⟨_, z4⟩
          | 5, _ => exact ⟨_, z5⟩
          | 6, _ => exact ⟨_, z6⟩
        · iterate 7 refine Below.setCell ?_ (by dsimp only; exact Nat.le_refl _) _
          exact bjoin HB06.out HB0.out
      have e4 : ¬ ((ps.length - 3 : Nat) : Int) = 1 := by omega
      have e4b : ¬ ps.length - 3 = 1 := by omega
      have HC : Hid (C = ⟨4, N1, T2, ⟨#[]⟩, 0, [], 0⟩) := by show _ = _; rw [HLS.out]; simp [l4]
      rw [HC.out] at HEN HD2
      unfold chgV at HEN
      dsimp only at HEN
      obtain ⟨q0, q1, q2, q3, q4, _⟩ := KC.out W HBW.out
      clear q0 q1 q2 q3 q4
      obtain ⟨⟨o0, o1, o2, o3, o4, o5, o6⟩, ⟨p0, p1, p2, p3, p4, p5, p6⟩, hzB⟩ := HBX.out
      go_wp2_with fail
      refine (HEN.out _ _ 0 ⟨by simp, .inl ⟨none, 0, rfl, rfl⟩⟩).mono ?_
      rintro e v6 ⟨rfl, hb6⟩
      have hx6 := (HBX.out).keep hb6
      have HV6 : Hid (Below v1.heap.size v1 v6) := bjoin hb6 (HBW.out)
      have HB06 : Hid (Below x0.heap.size x0 v6) := bjoin HV6.out HB1.out
      clear o0 o1 o2 o3 o4 o5 o6 p0 p1 p2 p3 p4 p5 p6 hzB hb6
      obtain ⟨z0, z1, z2, z3, z4, z5, z6, y0, y1, y2, y3, y4, y5, y6, hzw⟩ := KZ.out v6 HB06.out
      obtain ⟨⟨o0, o1, o2, o3, o4, o5, o6⟩, ⟨p0, p1, p2, p3, p4, p5, p6⟩, hzB⟩ := hx6
      by_cases heq : E = s
      · subst heq
        have HDD : Hid (decS E = some ⟨4, N1, T2, ⟨#[]⟩, 0, [], 0⟩) := by show _ = _; rw [HD2.out, if_pos rfl]
        have hne : ¬ w.heap.size = B := by have h1 := HBB.out; have h2 := HB1.out.size; have h3 := HS0.out; omega
        have hne2 : ¬ B = w.heap.size := fun h => hne h.symm
        go_wp2_with fail
        rw [HDD.out]
        refine bodyPost_ret (v := .tuple #[.agg #[.int .i64 4, .int .i64 N1, .string T2, .string ⟨#[]⟩, .int .i64 0, .slice none 0 0, .int .i64 0], .bool true]) (decS_results rfl rfl (set7 (fun i hi => ?_) _ _ _ _ _ _ _ _ _)) rfl ⟨.slice none 0 0, rfl, ?_, ?_⟩
        · match i, hi with
          | 0, _ => exact ⟨_, z0⟩
          | 1, _ => exact ⟨_, z1⟩
          | 2, _ => exact ⟨_, z2⟩
          | 3, _ => exact ⟨_, z3⟩
          | 4, _ => exact ⟨_, z4⟩
          | 5, _ => exact ⟨_, z5⟩
          | 6, _ => exact ⟨_, z6⟩
        · exact OChg.nil rfl _ _
        · iterate 7 refine Below.setCell ?_ (by dsimp only; exact Nat.le_refl _) _
          exact bjoin HB06.out HB0.out
      have hbe : (E.toList == s.toList) = false := bne_text heq
      have hbe2 : (E.toList != s.toList) = true := by rw [bne, hbe]; rfl
      have HDD : Hid (decS s = none) := by show _ = _; rw [HD2.out, if_neg heq]
      clear heq
      go_wp2_with fail
      rw [HDD.out]
      refine bodyPost_ret (v := .tuple #[.agg #[.int .i64 0, .int .i64 0, .string ⟨#[]⟩, .string ⟨#[]⟩, .int .i64 0, .slice none 0 0, .int .i64 0], .bool false]) (decS_results rfl rfl (set7 (fun i hi => ?_) _ _ _ _ _ _ _ _ _)) rfl ⟨.slice none 0 0, rfl, OChg.zero _ _, ?_⟩
      · match i, hi with
        | 0, _ => exact ⟨_, z0⟩
        | 1, _ => exact ⟨_, z1⟩
        | 2, _ => exact ⟨_, z2⟩
        | 3, _ => exact ⟨_, z3⟩
        | 4, _ => exact ⟨_, z4⟩
        | 5, _ => exact ⟨_, z5⟩
        | 6, _ => exact ⟨_, z6⟩
      · iterate 7 refine Below.setCell ?_ (by dsimp only; exact Nat.le_refl _) _
        exact bjoin HB06.out HB0.out
    have kb4 : (N0 == 4) = false := by simpa using k4
    have HC : Hid (C = ⟨N0, N1, T2, ⟨#[]⟩, 0, [], 0⟩) := by show _ = _; rw [HLS.out]; simp [k1, k2, k4]
    rw [HC.out] at HEN HD2
    unfold chgV at HEN
    dsimp only at HEN
    obtain ⟨q0, q1, q2, q3, q4, _⟩ := KC.out W HBW.out
    clear q0 q1 q2 q3 q4
    obtain ⟨⟨o0, o1, o2, o3, o4, o5, o6⟩, ⟨p0, p1, p2, p3, p4, p5, p6⟩, hzB⟩ := HBX.out
    go_wp2_with fail
    refine (HEN.out _ _ 0 ⟨by simp, .inl ⟨none, 0, rfl, rfl⟩⟩).mono ?_
    rintro e v6 ⟨rfl, hb6⟩
    have hx6 := (HBX.out).keep hb6
    have HV6 : Hid (Below v1.heap.size v1 v6) := bjoin hb6 (HBW.out)
    have HB06 : Hid (Below x0.heap.size x0 v6) := bjoin HV6.out HB1.out
    clear o0 o1 o2 o3 o4 o5 o6 p0 p1 p2 p3 p4 p5 p6 hzB hb6
    obtain ⟨z0, z1, z2, z3, z4, z5, z6, y0, y1, y2, y3, y4, y5, y6, hzw⟩ := KZ.out v6 HB06.out
    obtain ⟨⟨o0, o1, o2, o3, o4, o5, o6⟩, ⟨p0, p1, p2, p3, p4, p5, p6⟩, hzB⟩ := hx6
    by_cases heq : E = s
    · subst heq
      have HDD : Hid (decS E = some ⟨N0, N1, T2, ⟨#[]⟩, 0, [], 0⟩) := by show _ = _; rw [HD2.out, if_pos rfl]
      have hne : ¬ w.heap.size = B := by have h1 := HBB.out; have h2 := HB1.out.size; have h3 := HS0.out; omega
      have hne2 : ¬ B = w.heap.size := fun h => hne h.symm
      go_wp2_with fail
      rw [HDD.out]
      refine bodyPost_ret (v := .tuple #[.agg #[.int .i64 N0, .int .i64 N1, .string T2, .string ⟨#[]⟩, .int .i64 0, .slice none 0 0, .int .i64 0], .bool true]) (decS_results rfl rfl (set7 (fun i hi => ?_) _ _ _ _ _ _ _ _ _)) rfl ⟨.slice none 0 0, rfl, ?_, ?_⟩
      · match i, hi with
        | 0, _ => exact ⟨_, z0⟩
        | 1, _ => exact ⟨_, z1⟩
        | 2, _ => exact ⟨_, z2⟩
        | 3, _ => exact ⟨_, z3⟩
        | 4, _ => exact ⟨_, z4⟩
        | 5, _ => exact ⟨_, z5⟩
        | 6, _ => exact ⟨_, z6⟩
      · exact OChg.nil rfl _ _
      · iterate 7 refine Below.setCell ?_ (by dsimp only; exact Nat.le_refl _) _
        exact bjoin HB06.out HB0.out
    have hbe : (E.toList == s.toList) = false := bne_text heq
    have hbe2 : (E.toList != s.toList) = true := by rw [bne, hbe]; rfl
    have HDD : Hid (decS s = none) := by show _ = _; rw [HD2.out, if_neg heq]
    clear heq
    go_wp2_with fail
    rw [HDD.out]
    refine bodyPost_ret (v := .tuple #[.agg #[.int .i64 0, .int .i64 0, .string ⟨#[]⟩, .string ⟨#[]⟩, .int .i64 0, .slice none 0 0, .int .i64 0], .bool false]) (decS_results rfl rfl (set7 (fun i hi => ?_) _ _ _ _ _ _ _ _ _)) rfl ⟨.slice none 0 0, rfl, OChg.zero _ _, ?_⟩
    · match i, hi with
      | 0, _ => exact ⟨_, z0⟩
      | 1, _ => exact ⟨_, z1⟩
      | 2, _ => exact ⟨_, z2⟩
      | 3, _ => exact ⟨_, z3⟩
      | 4, _ => exact ⟨_, z4⟩
      | 5, _ => exact ⟨_, z5⟩
      | 6, _ => exact ⟨_, z6⟩
    · iterate 7 refine Below.setCell ?_ (by dsimp only; exact Nat.le_refl _) _
      exact bjoin HB06.out HB0.out
  · obtain ⟨W, hW⟩ : ∃ W, (((((((v3.setCell ⟨v2.heap.size, 0, none⟩ (.int .i64 N0)).setCell ⟨v2.heap.size, 1, none⟩ (.int .i64 N1)).setCell ⟨v2.heap.size, 2, none⟩ (.string T2)).setCell ⟨v2.heap.size, 3, none⟩ (.string ⟨#[]⟩)).setCell ⟨v2.heap.size, 4, none⟩ (.int .i64 0)).setCell ⟨v2.heap.size, 5, none⟩ (.slice none 0 0)).setCell ⟨v2.heap.size, 6, none⟩ (.int .i64 0)) = W := ⟨_, rfl⟩
    obtain ⟨B, hB⟩ : ∃ B, v2.heap.size = B := ⟨_, rfl⟩
    have hbx : Box7 W B N0 N1 T2 ⟨#[]⟩ 0 (.slice none 0 0) 0 := by
      rw [← hW, ← hB]
      refine Box7.of_set (fun i hi => ?_) hzo N0 N1 0 0 T2 ⟨#[]⟩ none 0 0
      match i, hi with
      | 0, _ => exact ⟨⟨_, o0⟩, p0⟩
      | 1, _ => exact ⟨⟨_, o1⟩, p1⟩
      | 2, _ => exact ⟨⟨_, o2⟩, p2⟩
      | 3, _ => exact ⟨⟨_, o3⟩, p3⟩
      | 4, _ => exact ⟨⟨_, o4⟩, p4⟩
      | 5, _ => exact ⟨⟨_, o5⟩, p5⟩
      | 6, _ => exact ⟨⟨_, o6⟩, p6⟩
    have hbw : Below v1.heap.size v1 W := by rw [← hW]; exact below7 hB3 hB2.size _ _ _ _ _ _ _
    have hbB : v1.heap.size ≤ B := by rw [← hB]; exact hB2.size
    rw [hW, hB]
    have HBX := hide hbx
    have HBW := hide hbw
    have HBB := hide hbB
    clear hW hB hbx hbw hbB hB3 hb3 hB2 hb2 hD hbd0 hwd o0 o1 o2 o3 o4 o5 o6 p0 p1 p2 p3 p4 p5 p6 hzo
    have m4 : (3 : Int) ≤ (ps.length : Int) := by omega
    have m7 : (3 : Int) ≤ (cap : Int) := by omega
    by_cases c3 : cap = 3
    · subst c3
      have l3 : ps.length = 3 := by omega
      have l3i : ((ps.length - 3 : Nat) : Int) = 0 := by omega
      have l3b : ps.length - 3 = 0 := by omega
      have HREST : Hid (∀ X, Below v1.heap.size v1 X → ∃ bs, OStrs X (.slice (some ⟨g, 0, none⟩) 0 0) ((ps.drop 3).map txt) bs ∧ bs.Nodup ∧ ∀ b ∈ bs, x0.heap.size ≤ b) := fun X _ => by rw [List.drop_eq_nil_of_le (by omega)]; exact ⟨[], ⟨by simp, .inl ⟨_, _, rfl, rfl, rfl⟩⟩, by simp, by simp⟩
      by_cases k1 : N0 = 1
      · subst k1
        have l5 : ¬ ps.length = 5 := by omega
        have e5 : ¬ ((ps.length - 3 : Nat) : Int) = 2 := by omega
        have e5b : ¬ ps.length - 3 = 2 := by omega
        have HC : Hid (C = ⟨1, N1, T2, ⟨#[]⟩, 0, [], 0⟩) := by show _ = _; rw [HLS.out]; simp [l5]
        rw [HC.out] at HEN HD2
        unfold chgV at HEN
        dsimp only at HEN
        obtain ⟨q0, q1, q2, q3, q4, _⟩ := KC.out W HBW.out
        clear q0 q1 q2 q3 q4
        obtain ⟨⟨o0, o1, o2, o3, o4, o5, o6⟩, ⟨p0, p1, p2, p3, p4, p5, p6⟩, hzB⟩ := HBX.out
        go_wp2_with fail
        refine (HEN.out _ _ 0 ⟨by simp, .inl ⟨none, 0, rfl, rfl⟩⟩).mono ?_
        rintro e v6 ⟨rfl, hb6⟩
        have hx6 := (HBX.out).keep hb6
        have HV6 : Hid (Below v1.heap.size v1 v6) := bjoin hb6 (HBW.out)
        have HB06 : Hid (Below x0.heap.size x0 v6) := bjoin HV6.out HB1.out
        clear o0 o1 o2 o3 o4 o5 o6 p0 p1 p2 p3 p4 p5 p6 hzB hb6
        obtain ⟨z0, z1, z2, z3, z4, z5, z6, y0, y1, y2, y3, y4, y5, y6, hzw⟩ := KZ.out v6 HB06.out
        obtain ⟨⟨o0, o1, o2, o3, o4, o5, o6⟩, ⟨p0, p1, p2, p3, p4, p5, p6⟩, hzB⟩ := hx6
        by_cases heq : E = s
        · subst heq
          have HDD : Hid (decS E = some ⟨1, N1, T2, ⟨#[]⟩, 0, [], 0⟩) := by show _ = _; rw [HD2.out, if_pos rfl]
          have hne : ¬ w.heap.size = B := by have h1 := HBB.out; have h2 := HB1.out.size; have h3 := HS0.out; omega
          have hne2 : ¬ B = w.heap.size := fun h => hne h.symm
          go_wp2_with fail
          rw [HDD.out]
          refine bodyPost_ret (v := .tuple #[.agg #[.int .i64 1, .int .i64 N1, .string T2, .string ⟨#[]⟩, .int .i64 0, .slice none 0 0, .int .i64 0], .bool true]) (decS_results rfl rfl (set7 (fun i hi => ?_) _ _ _ _ _ _ _ _ _)) rfl ⟨.slice none 0 0, rfl, ?_, ?_⟩
          · match i, hi with
            | 0, _ => exact ⟨_, z0⟩
            | 1, _ => exact ⟨_, z1⟩
            | 2, _ => exact ⟨_, z2⟩
            | 3, _ => exact ⟨_, z3⟩
            | 4, _ => exact ⟨_, z4⟩
            | 5, _ => exact ⟨_, z5⟩
            | 6, _ => exact ⟨_, z6⟩
          · exact OChg.nil rfl _ _
          · iterate 7 refine Below.setCell ?_ (by dsimp only; exact Nat.le_refl _) _
            exact bjoin HB06.out HB0.out
        have hbe : (E.toList == s.toList) = false := bne_text heq
        have hbe2 : (E.toList != s.toList) = true := by rw [bne, hbe]; rfl
        have HDD : Hid (decS s = none) := by show _ = _; rw [HD2.out, if_neg heq]
        clear heq
        go_wp2_with fail
        rw [HDD.out]
        refine bodyPost_ret (v := .tuple #[.agg #[.int .i64 0, .int .i64 0, .string ⟨#[]⟩, .string ⟨#[]⟩, .int .i64 0, .slice none 0 0, .int .i64 0], .bool false]) (decS_results rfl rfl (set7 (fun i hi => ?_) _ _ _ _ _ _ _ _ _)) rfl ⟨.slice none 0 0, rfl, OChg.zero _ _, ?_⟩
        · match i, hi with
          | 0, _ => exact ⟨_, z0⟩
          | 1, _ => exact ⟨_, z1⟩
          | 2, _ => exact ⟨_, z2⟩
          | 3, _ => exact ⟨_, z3⟩
          | 4, _ => exact ⟨_, z4⟩
          | 5, _ => exact ⟨_, z5⟩
          | 6, _ => exact ⟨_, z6⟩
        · iterate 7 refine Below.setCell ?_ (by dsimp only; exact Nat.le_refl _) _
          exact bjoin HB06.out HB0.out
      have kb1 : (N0 == 1) = false := by simpa using k1
      by_cases k2 : N0 = 2
      · subst k2
        have HC : Hid (C = ⟨2, N1, T2, ⟨#[]⟩, 0, (ps.drop 3).map txt, 0⟩) := by show _ = _; rw [HLS.out]; simp []
        rw [HC.out] at HEN HD2
        unfold chgV at HEN
        dsimp only at HEN
        obtain ⟨q0, q1, q2, q3, q4, _⟩ := KC.out W HBW.out
        clear q0 q1 q2 q3 q4
        obtain ⟨⟨o0, o1, o2, o3, o4, o5, o6⟩, ⟨p0, p1, p2, p3, p4, p5, p6⟩, hzB⟩ := HBX.out
        have HRE := hide (HREST.out)
        go_wp2_with fail
        have hOY := HRE.out _ (Below.setCell HBW.out (p := ⟨B, 5, none⟩) HBB.out (.slice (some ⟨g, 0, none⟩) 0 0))
        refine (HEN.out _ _ x0.heap.size (OAt.toAt toAt_str hOY.choose_spec.1 hOY.choose_spec.2.2)).mono ?_
        rintro e v6 ⟨rfl, hb6⟩
        have hx6 := (HBX.out.set5 (.slice (some ⟨g, 0, none⟩) 0 0)).keep hb6
        have HV6 : Hid (Below v1.heap.size v1 v6) := bjoin hb6 (Below.setCell HBW.out (p := ⟨B, 5, none⟩) HBB.out _)
        have HB06 : Hid (Below x0.heap.size x0 v6) := bjoin HV6.out HB1.out
        have HO6 := hide (HRE.out v6 HV6.out)
        clear hOY
        clear o0 o1 o2 o3 o4 o5 o6 p0 p1 p2 p3 p4 p5 p6 hzB hb6
        obtain ⟨z0, z1, z2, z3, z4, z5, z6, y0, y1, y2, y3, y4, y5, y6, hzw⟩ := KZ.out v6 HB06.out
        obtain ⟨⟨o0, o1, o2, o3, o4, o5, o6⟩, ⟨p0, p1, p2, p3, p4, p5, p6⟩, hzB⟩ := hx6
        by_cases heq : E = s
        · subst heq
          have HDD : Hid (decS E = some ⟨2, N1, T2, ⟨#[]⟩, 0, (ps.drop 3).map txt, 0⟩) := by show _ = _; rw [HD2.out, if_pos rfl]
          have hne : ¬ w.heap.size = B := by have h1 := HBB.out; have h2 := HB1.out.size; have h3 := HS0.out; omega
          have hne2 : ¬ B = w.heap.size := fun h => hne h.symm
          go_wp2_with fail
          rw [HDD.out]
          refine bodyPost_ret (v := .tuple #[.agg #[.int .i64 2, .int .i64 N1, .string T2, .string ⟨#[]⟩, .int .i64 0, .slice (some ⟨g, 0, none⟩) 0 0, .int .i64 0], .bool true]) (decS_results rfl rfl (set7 (fun i hi => ?_) _ _ _ _ _ _ _ _ _)) rfl ⟨.slice (some ⟨g, 0, none⟩) 0 0, rfl, ?_, ?_⟩
          · match i, hi with
            | 0, _ => exact ⟨_, z0⟩
            | 1, _ => exact ⟨_, z1⟩
            | 2, _ => exact ⟨_, z2⟩
            | 3, _ => exact ⟨_, z3⟩
            | 4, _ => exact ⟨_, z4⟩
            | 5, _ => exact ⟨_, z5⟩
            | 6, _ => exact ⟨_, z6⟩
          · have hlt : w.heap.size < x0.heap.size := by have := HS0.out; omega
            refine OChg.mono (base := x0.heap.size) ?_ (Nat.le_of_lt hlt)
            iterate 7 refine OChg.set ?_ hlt _
            exact HO6.out
          · iterate 7 refine Below.setCell ?_ (by dsimp only; exact Nat.le_refl _) _
            exact bjoin HB06.out HB0.out
        have hbe : (E.toList == s.toList) = false := bne_text heq
        have hbe2 : (E.toList != s.toList) = true := by rw [bne, hbe]; rfl
        have HDD : Hid (decS s = none) := by show _ = _; rw [HD2.out, if_neg heq]
        clear heq
        go_wp2_with fail
        rw [HDD.out]
        refine bodyPost_ret (v := .tuple #[.agg #[.int .i64 0, .int .i64 0, .string ⟨#[]⟩, .string ⟨#[]⟩, .int .i64 0, .slice none 0 0, .int .i64 0], .bool false]) (decS_results rfl rfl (set7 (fun i hi => ?_) _ _ _ _ _ _ _ _ _)) rfl ⟨.slice none 0 0, rfl, OChg.zero _ _, ?_⟩
        · match i, hi with
          | 0, _ => exact ⟨_, z0⟩
          | 1, _ => exact ⟨_, z1⟩
          | 2, _ => exact ⟨_, z2⟩
          | 3, _ => exact ⟨_, z3⟩
          | 4, _ => exact ⟨_, z4⟩
          | 5, _ => exact ⟨_, z5⟩
          | 6, _ => exact ⟨_, z6⟩
        · iterate 7 refine Below.setCell ?_ (by dsimp only; exact Nat.le_refl _) _
          exact bjoin HB06.out HB0.out
      have kb2 : (N0 == 2) = false := by simpa using k2
      by_cases k4 : N0 = 4
      · subst k4
        have l4 : ¬ ps.length = 4 := by omega
        have e4 : ¬ ((ps.length - 3 : Nat) : Int) = 1 := by omega
        have e4b : ¬ ps.length - 3 = 1 := by omega
        have HC : Hid (C = ⟨4, N1, T2, ⟨#[]⟩, 0, [], 0⟩) := by show _ = _; rw [HLS.out]; simp [l4]
        rw [HC.out] at HEN HD2
        unfold chgV at HEN
        dsimp only at HEN
        obtain ⟨q0, q1, q2, q3, q4, _⟩ := KC.out W HBW.out
        clear q0 q1 q2 q3 q4
        obtain ⟨⟨o0, o1, o2, o3, o4, o5, o6⟩, ⟨p0, p1, p2, p3, p4, p5, p6⟩, hzB⟩ := HBX.out
        go_wp2_with fail
        refine (HEN.out _ _ 0 ⟨by simp, .inl ⟨none, 0, rfl, rfl⟩⟩).mono ?_
        rintro e v6 ⟨rfl, hb6⟩
        have hx6 := (HBX.out).keep hb6
        have HV6 : Hid (Below v1.heap.size v1 v6) := bjoin hb6 (HBW.out)
        have HB06 : Hid (Below x0.heap.size x0 v6) := bjoin HV6.out HB1.out
        clear o0 o1 o2 o3 o4 o5 o6 p0 p1 p2 p3 p4 p5 p6 hzB hb6
        obtain ⟨z0, z1, z2, z3, z4, z5, z6, y0, y1, y2, y3, y4, y5, y6, hzw⟩ := KZ.out v6 HB06.out
        obtain ⟨⟨o0, o1, o2, o3, o4, o5, o6⟩, ⟨p0, p1, p2, p3, p4, p5, p6⟩, hzB⟩ := hx6
        by_cases heq : E = s
        · subst heq
          have HDD : Hid (decS E = some ⟨4, N1, T2, ⟨#[]⟩, 0, [], 0⟩) := by show _ = _; rw [HD2.out, if_pos rfl]
          have hne : ¬ w.heap.size = B := by have h1 := HBB.out; have h2 := HB1.out.size; have h3 := HS0.out; omega
          have hne2 : ¬ B = w.heap.size := fun h => hne h.symm
          go_wp2_with fail
          rw [HDD.out]
          refine bodyPost_ret (v := .tuple #[.agg #[.int .i64 4, .int .i64 N1, .string T2, .string ⟨#[]⟩, .int .i64 0, .slice none 0 0, .int .i64 0], .bool true]) (decS_results rfl rfl (set7 (fun i hi => ?_) _ _ _ _ _ _ _ _ _)) rfl ⟨.slice none 0 0, rfl, ?_, ?_⟩
          · match i, hi with
            | 0, _ => exact ⟨_, z0⟩
            | 1, _ => exact ⟨_, z1⟩
            | 2, _ => exact ⟨_, z2⟩
            | 3, _ => exact ⟨_, z3⟩
            | 4, _ => exact ⟨_, z4⟩
            | 5, _ => exact ⟨_, z5⟩
            | 6, _ => exact ⟨_, z6⟩
          · exact OChg.nil rfl _ _
          · iterate 7 refine Below.setCell ?_ (by dsimp only; exact Nat.le_refl _) _
            exact bjoin HB06.out HB0.out
        have hbe : (E.toList == s.toList) = false := bne_text heq
        have hbe2 : (E.toList != s.toList) = true := by rw [bne, hbe]; rfl
        have HDD : Hid (decS s = none) := by show _ = _; rw [HD2.out, if_neg heq]
        clear heq
        go_wp2_with fail
        rw [HDD.out]
        refine bodyPost_ret (v := .tuple #[.agg #[.int .i64 0, .int .i64 0, .string ⟨#[]⟩, .string ⟨#[]⟩, .int .i64 0, .slice none 0 0, .int .i64 0], .bool false]) (decS_results rfl rfl (set7 (fun i hi => ?_) _ _ _ _ _ _ _ _ _)) rfl ⟨.slice none 0 0, rfl, OChg.zero _ _, ?_⟩
        · match i, hi with
          | 0, _ => exact ⟨_, z0⟩
          | 1, _ => exact ⟨_, z1⟩
          | 2, _ => exact ⟨_, z2⟩
          | 3, _ => exact ⟨_, z3⟩
          | 4, _ => exact ⟨_, z4⟩
          | 5, _ => exact ⟨_, z5⟩
          | 6, _ => exact ⟨_, z6⟩
        · iterate 7 refine Below.setCell ?_ (by dsimp only; exact Nat.le_refl _) _
          exact bjoin HB06.out HB0.out
      have kb4 : (N0 == 4) = false := by simpa using k4
      have HC : Hid (C = ⟨N0, N1, T2, ⟨#[]⟩, 0, [], 0⟩) := by show _ = _; rw [HLS.out]; simp [k1, k2, k4]
      rw [HC.out] at HEN HD2
      unfold chgV at HEN
      dsimp only at HEN
      obtain ⟨q0, q1, q2, q3, q4, _⟩ := KC.out W HBW.out
      clear q0 q1 q2 q3 q4
      obtain ⟨⟨o0, o1, o2, o3, o4, o5, o6⟩, ⟨p0, p1, p2, p3, p4, p5, p6⟩, hzB⟩ := HBX.out
      go_wp2_with fail
      refine (HEN.out _ _ 0 ⟨by simp, .inl ⟨none, 0, rfl, rfl⟩⟩).mono ?_
      rintro e v6 ⟨rfl, hb6⟩
      have hx6 := (HBX.out).keep hb6
      have HV6 : Hid (Below v1.heap.size v1 v6) := bjoin hb6 (HBW.out)
      have HB06 : Hid (Below x0.heap.size x0 v6) := bjoin HV6.out HB1.out
      clear o0 o1 o2 o3 o4 o5 o6 p0 p1 p2 p3 p4 p5 p6 hzB hb6
      obtain ⟨z0, z1, z2, z3, z4, z5, z6, y0, y1, y2, y3, y4, y5, y6, hzw⟩ := KZ.out v6 HB06.out
      obtain ⟨⟨o0, o1, o2, o3, o4, o5, o6⟩, ⟨p0, p1, p2, p3, p4, p5, p6⟩, hzB⟩ := hx6
      by_cases heq : E = s
      · subst heq
        have HDD : Hid (decS E = some ⟨N0, N1, T2, ⟨#[]⟩, 0, [], 0⟩) := by show _ = _; rw [HD2.out, if_pos rfl]
        have hne : ¬ w.heap.size = B := by have h1 := HBB.out; have h2 := HB1.out.size; have h3 := HS0.out; omega
        have hne2 : ¬ B = w.heap.size := fun h => hne h.symm
        go_wp2_with fail
        rw [HDD.out]
        refine bodyPost_ret (v := .tuple #[.agg #[.int .i64 N0, .int .i64 N1, .string T2, .string ⟨#[]⟩, .int .i64 0, .slice none 0 0, .int .i64 0], .bool true]) (decS_results rfl rfl (set7 (fun i hi => ?_) _ _ _ _ _ _ _ _ _)) rfl ⟨.slice none 0 0, rfl, ?_, ?_⟩
        · match i, hi with
          | 0, _ => exact ⟨_, z0⟩
          | 1, _ => exact ⟨_, z1⟩
          | 2, _ => exact ⟨_, z2⟩
          | 3, _ => exact ⟨_, z3⟩
          | 4, _ => exact ⟨_, z4⟩
          | 5, _ => exact ⟨_, z5⟩
          | 6, _ => exact ⟨_, z6⟩
        · exact OChg.nil rfl _ _
        · iterate 7 refine Below.setCell ?_ (by dsimp only; exact Nat.le_refl _) _
          exact bjoin HB06.out HB0.out
      have hbe : (E.toList == s.toList) = false := bne_text heq
      have hbe2 : (E.toList != s.toList) = true := by rw [bne, hbe]; rfl
      have HDD : Hid (decS s = none) := by show _ = _; rw [HD2.out, if_neg heq]
      clear heq
      go_wp2_with fail
      rw [HDD.out]
      refine bodyPost_ret (v := .tuple #[.agg #[.int .i64 0, .int .i64 0, .string ⟨#[]⟩, .string ⟨#[]⟩, .int .i64 0, .slice none 0 0, .int .i64 0], .bool false]) (decS_results rfl rfl (set7 (fun i hi => ?_) _ _ _ _ _ _ _ _ _)) rfl ⟨.slice none 0 0, rfl, OChg.zero _ _, ?_⟩
      · match i, hi with
        | 0, _ => exact ⟨_, z0⟩
        | 1, _ => exact ⟨_, z1⟩
        | 2, _ => exact ⟨_, z2⟩
        | 3, _ => exact ⟨_, z3⟩
        | 4, _ => exact ⟨_, z4⟩
        | 5, _ => exact ⟨_, z5⟩
        | 6, _ => exact ⟨_, z6⟩
      · iterate 7 refine Below.setCell ?_ (by dsimp only; exact Nat.le_refl _) _
        exact bjoin HB06.out HB0.out
    have HREST : Hid (∀ X, Below v1.heap.size v1 X → ∃ bs, OStrs X (.slice (some ⟨g, 3, none⟩) (ps.length - 3) (cap - 3)) ((ps.drop 3).map txt) bs ∧ bs.Nodup ∧ ∀ b ∈ bs, x0.heap.size ≤ b) := fun X hX => parts_rest (by omega) (by omega) HPZ.out HGB.out (Nat.lt_of_lt_of_le HGL.out hX.size) (fun i hi => ⟨(hX.cell (p := ⟨g, i, none⟩) HGL.out).trans (HCS.out i hi).1, (hX.frozen (p := ⟨g, i, none⟩) HGL.out).trans (HCS.out i hi).2⟩)
    by_cases k1 : N0 = 1
    · subst k1
      by_cases l5 : ps.length = 5
      · have e5 : ((ps.length - 3 : Nat) : Int) = 2 := by omega
        have e5b : ps.length - 3 = 2 := by omega
        have HC : Hid (C = ⟨1, N1, T2, T3, N4, [], 0⟩) := by show _ = _; rw [HLS.out]; simp [l5]
        rw [HC.out] at HEN HD2
        unfold chgV at HEN
        dsimp only at HEN
        obtain ⟨q0, q1, q2, q3, q4, _⟩ := KC.out W HBW.out
        have r3 := q3 (by omega)
        have r4 := q4 (by omega)
        clear q0 q1 q2 q3 q4
        obtain ⟨⟨o0, o1, o2, o3, o4, o5, o6⟩, ⟨p0, p1, p2, p3, p4, p5, p6⟩, hzB⟩ := HBX.out
        have hgB : ¬ B = g := by have h1 := HBB.out; have h2 := HGL.out; omega
        have r4s : (W.setCell ⟨B, 3, none⟩ (.string T3)).cell? ⟨g, 4, none⟩ = some (.string T4) := by rw [sc_far hgB]; exact r4
        go_wp2_with fail
        refine (U4.out _).mono ?_
        rintro e v5 ⟨rfl, hb5⟩
        have hx5 := (HBX.out.set3 T3).keep hb5
        have HX5 := hide hx5
        have HV5 : Hid (Below v1.heap.size v1 v5) := bjoin hb5 (Below.setCell HBW.out (p := ⟨B, 3, none⟩) HBB.out _)
        clear o0 o1 o2 o3 o4 o5 o6 p0 p1 p2 p3 p4 p5 p6 hzB hb5 r3 r4 r4s
        obtain ⟨⟨o0, o1, o2, o3, o4, o5, o6⟩, ⟨p0, p1, p2, p3, p4, p5, p6⟩, hzB⟩ := hx5
        go_wp2_with fail
        refine (HEN.out _ _ 0 ⟨by simp, .inl ⟨none, 0, rfl, rfl⟩⟩).mono ?_
        rintro e v6 ⟨rfl, hb6⟩
        have hx6 := (HX5.out.set4 N4).keep hb6
        have HV6 : Hid (Below v1.heap.size v1 v6) := bjoin hb6 (Below.setCell HV5.out (p := ⟨B, 4, none⟩) HBB.out _)
        have HB06 : Hid (Below x0.heap.size x0 v6) := bjoin HV6.out HB1.out
        clear o0 o1 o2 o3 o4 o5 o6 p0 p1 p2 p3 p4 p5 p6 hzB hb6
        obtain ⟨z0, z1, z2, z3, z4, z5, z6, y0, y1, y2, y3, y4, y5, y6, hzw⟩ := KZ.out v6 HB06.out
        obtain ⟨⟨o0, o1, o2, o3, o4, o5, o6⟩, ⟨p0, p1, p2, p3, p4, p5, p6⟩, hzB⟩ := hx6
        by_cases heq : E = s
        · subst heq
          have HDD : Hid (decS E = some ⟨1, N1, T2, T3, N4, [], 0⟩) := by show _ = _; rw [HD2.out, if_pos rfl]
          have hne : ¬ w.heap.size = B := by have h1 := HBB.out; have h2 := HB1.out.size; have h3 := HS0.out; omega
          have hne2 : ¬ B = w.heap.size := fun h => hne h.symm
          go_wp2_with fail
          rw [HDD.out]
          refine bodyPost_ret (v := .tuple #[.agg #[.int .i64 1, .int .i64 N1, .string T2, .string T3, .int .i64 N4, .slice none 0 0, .int .i64 0], .bool true]) (decS_results rfl rfl (set7 (fun i hi => ?_) _ _ _ _ _ _ _ _ _)) rfl ⟨.slice none 0 0, rfl, ?_, ?_⟩
          · match i, hi with
            | 0, _ => exact ⟨_, z0⟩
            | 1, _ => exact ⟨_, z1⟩
            | 2, _ => exact ⟨_, z2⟩
            | 3, _ => exact ⟨_, z3⟩
            | 4, _ => exact ⟨_, z4⟩
            | 5, _ => exact ⟨_, z5⟩
            | 6, _ => exact ⟨_, z6⟩
          · exact OChg.nil rfl _ _
          · iterate 7 refine Below.setCell ?_ (by dsimp only; exact Nat.le_refl _) _
            exact bjoin HB06.out HB0.out
        have hbe : (E.toList == s.toList) = false := bne_text heq
        have hbe2 : (E.toList != s.toList) = true := by rw [bne, hbe]; rfl
        have HDD : Hid (decS s = none) := by show _ = _; rw [HD2.out, if_neg heq]
        clear heq
        go_wp2_with fail
        rw [HDD.out]
        refine bodyPost_ret (v := .tuple #[.agg #[.int .i64 0, .int .i64 0, .string ⟨#[]⟩, .string ⟨#[]⟩, .int .i64 0, .slice none 0 0, .int .i64 0], .bool false]) (decS_results rfl rfl (set7 (fun i hi => ?_) _ _ _ _ _ _ _ _ _)) rfl ⟨.slice none 0 0, rfl, OChg.zero _ _, ?_⟩
        · match i, hi with
          | 0, _ => exact ⟨_, z0⟩
          | 1, _ => exact ⟨_, z1⟩
          | 2, _ => exact ⟨_, z2⟩
          | 3, _ => exact ⟨_, z3⟩
          | 4, _ => exact ⟨_, z4⟩
          | 5, _ => exact ⟨_, z5⟩
          | 6, _ => exact ⟨_, z6⟩
        · iterate 7 refine Below.setCell ?_ (by dsimp only; exact Nat.le_refl _) _
          exact bjoin HB06.out HB0.out
      have e5 : ¬ ((ps.length - 3 : Nat) : Int) = 2 := by omega
      have e5b : ¬ ps.length - 3 = 2 := by omega
      have HC : Hid (C = ⟨1, N1, T2, ⟨#[]⟩, 0, [], 0⟩) := by show _ = _; rw [HLS.out]; simp [l5]
      rw [HC.out] at HEN HD2
      unfold chgV at HEN
      dsimp only at HEN
      obtain ⟨q0, q1, q2, q3, q4, _⟩ := KC.out W HBW.out
      clear q0 q1 q2 q3 q4
      obtain ⟨⟨o0, o1, o2, o3, o4, o5, o6⟩, ⟨p0, p1, p2, p3, p4, p5, p6⟩, hzB⟩ := HBX.out
      go_wp2_with fail
      refine (HEN.out _ _ 0 ⟨by simp, .inl ⟨none, 0, rfl, rfl⟩⟩).mono ?_
      rintro e v6 ⟨rfl, hb6⟩
      have hx6 := (HBX.out).keep hb6
      have HV6 : Hid (Below v1.heap.size v1 v6) := bjoin hb6 (HBW.out)
      have HB06 : Hid (Below x0.heap.size x0 v6) := bjoin HV6.out HB1.out
      clear o0 o1 o2 o3 o4 o5 o6 p0 p1 p2 p3 p4 p5 p6 hzB hb6
      obtain ⟨z0, z1, z2, z3, z4, z5, z6, y0, y1, y2, y3, y4, y5, y6, hzw⟩ := KZ.out v6 HB06.out
      obtain ⟨⟨o0, o1, o2, o3, o4, o5, o6⟩, ⟨p0, p1, p2, p3, p4, p5, p6⟩, hzB⟩ := hx6
      by_cases heq : E = s
      · subst heq
        have HDD : Hid (decS E = some ⟨1, N1, T2, ⟨#[]⟩, 0, [], 0⟩) := by show _ = _; rw [HD2.out, if_pos rfl]
        have hne : ¬ w.heap.size = B := by have h1 := HBB.out; have h2 := HB1.out.size; have h3 := HS0.out; omega
        have hne2 : ¬ B = w.heap.size := fun h => hne h.symm
        go_wp2_with fail
        rw [HDD.out]
        refine bodyPost_ret (v := .tuple #[.agg #[.int .i64 1, .int .i64 N1, .string T2, .string ⟨#[]⟩, .int .i64 0, .slice none 0 0, .int .i64 0], .bool true]) (decS_results rfl rfl (set7 (fun i hi => ?_) _ _ _ _ _ _ _ _ _)) rfl ⟨.slice none 0 0, rfl, ?_, ?_⟩
        · match i, hi with
          | 0, _ => exact ⟨_, z0⟩
          | 1, _ => exact ⟨_, z1⟩
          | 2, _ => exact ⟨_, z2⟩
          | 3, _ => exact ⟨_, z3⟩
          | 4, _ => exact ⟨_, z4⟩
          | 5, _ => exact ⟨_, z5⟩
          | 6, _ => exact ⟨_, z6⟩
        · exact OChg.nil rfl _ _
        · iterate 7 refine Below.setCell ?_ (by dsimp only; exact Nat.le_refl _) _
          exact bjoin HB06.out HB0.out
      have hbe : (E.toList == s.toList) = false := bne_text heq
      have hbe2 : (E.toList != s.toList) = true := by rw [bne, hbe]; rfl
      have HDD : Hid (decS s = none) := by show _ = _; rw [HD2.out, if_neg heq]
      clear heq
      go_wp2_with fail
      rw [HDD.out]
      refine bodyPost_ret (v := .tuple #[.agg #[.int .i64 0, .int .i64 0, .string ⟨#[]⟩, .string ⟨#[]⟩, .int .i64 0, .slice none 0 0, .int .i64 0], .bool false]) (decS_results rfl rfl (set7 (fun i hi => ?_) _ _ _ _ _ _ _ _ _)) rfl ⟨.slice none 0 0, rfl, OChg.zero _ _, ?_⟩
      · match i, hi with
        | 0, _ => exact ⟨_, z0⟩
        | 1, _ => exact ⟨_, z1⟩
        | 2, _ => exact ⟨_, z2⟩
        | 3, _ => exact ⟨_, z3⟩
        | 4, _ => exact ⟨_, z4⟩
        | 5, _ => exact ⟨_, z5⟩
        | 6, _ => exact ⟨_, z6⟩
      · iterate 7 refine Below.setCell ?_ (by dsimp only; exact Nat.le_refl _) _
        exact bjoin HB06.out HB0.out
    have kb1 : (N0 == 1) = false := by simpa using k1
    by_cases k2 : N0 = 2
    · subst k2
      have HC : Hid (C = ⟨2, N1, T2, ⟨#[]⟩, 0, (ps.drop 3).map txt, 0⟩) := by show _ = _; rw [HLS.out]; simp []
      rw [HC.out] at HEN HD2
      unfold chgV at HEN
      dsimp only at HEN
      obtain ⟨q0, q1, q2, q3, q4, _⟩ := KC.out W HBW.out
      clear q0 q1 q2 q3 q4
      obtain ⟨⟨o0, o1, o2, o3, o4, o5, o6⟩, ⟨p0, p1, p2, p3, p4, p5, p6⟩, hzB⟩ := HBX.out
      have HRE := hide (HREST.out)
      go_wp2_with fail
      have hOY := HRE.out _ (Below.setCell HBW.out (p := ⟨B, 5, none⟩) HBB.out (.slice (some ⟨g, 3, none⟩) (ps.length - 3) (cap - 3)))
      refine (HEN.out _ _ x0.heap.size (OAt.toAt toAt_str hOY.choose_spec.1 hOY.choose_spec.2.2)).mono ?_
      rintro e v6 ⟨rfl, hb6⟩
      have hx6 := (HBX.out.set5 (.slice (some ⟨g, 3, none⟩) (ps.length - 3) (cap - 3))).keep hb6
      have HV6 : Hid (Below v1.heap.size v1 v6) := bjoin hb6 (Below.setCell HBW.out (p := ⟨B, 5, none⟩) HBB.out _)
      have HB06 : Hid (Below x0.heap.size x0 v6) := bjoin HV6.out HB1.out
      have HO6 := hide (HRE.out v6 HV6.out)
      clear hOY
      clear o0 o1 o2 o3 o4 o5 o6 p0 p1 p2 p3 p4 p5 p6 hzB hb6
      obtain ⟨z0, z1, z2, z3, z4, z5, z6, y0, y1, y2, y3, y4, y5, y6, hzw⟩ := KZ.out v6 HB06.out
      obtain ⟨⟨o0, o1, o2, o3, o4, o5, o6⟩, ⟨p0, p1, p2, p3, p4, p5, p6⟩, hzB⟩ := hx6
      by_cases heq : E = s
      · subst heq
        have HDD : Hid (decS E = some ⟨2, N1, T2, ⟨#[]⟩, 0, (ps.drop 3).map txt, 0⟩) := by show _ = _; rw [HD2.out, if_pos rfl]
        have hne : ¬ w.heap.size = B := by have h1 := HBB.out; have h2 := HB1.out.size; have h3 := HS0.out; omega
        have hne2 : ¬ B = w.heap.size := fun h => hne h.symm
        go_wp2_with fail
        rw [HDD.out]
        refine bodyPost_ret (v := .tuple #[.agg #[.int .i64 2, .int .i64 N1, .string T2, .string ⟨#[]⟩, .int .i64 0, .slice (some ⟨g, 3, none⟩) (ps.length - 3) (cap - 3), .int .i64 0], .bool true]) (decS_results rfl rfl (set7 (fun i hi => ?_) _ _ _ _ _ _ _ _ _)) rfl ⟨.slice (some ⟨g, 3, none⟩) (ps.length - 3) (cap - 3), rfl, ?_, ?_⟩
        · match i, hi with
          | 0, _ => exact ⟨_, z0⟩
          | 1, _ => exact ⟨_, z1⟩
          | 2, _ => exact ⟨_, z2⟩
          | 3, _ => exact ⟨_, z3⟩
          | 4, _ => exact ⟨_, z4⟩
          | 5, _ => exact ⟨_, z5⟩
          | 6, _ => exact ⟨_, z6⟩
        · have hlt : w.heap.size < x0.heap.size := by have := HS0.out; omega
          refine OChg.mono (base := x0.heap.size) ?_ (Nat.le_of_lt hlt)
          iterate 7 refine OChg.set ?_ hlt _
          exact HO6.out
        · iterate 7 refine Below.setCell ?_ (by dsimp only; exact Nat.le_refl _) _
          exact bjoin HB06.out HB0.out
      have hbe : (E.toList == s.toList) = false := bne_text heq
      have hbe2 : (E.toList != s.toList) = true := by rw [bne, hbe]; rfl
      have HDD : Hid (decS s = none) := by show _ = _; rw [HD2.out, if_neg heq]
      clear heq
      go_wp2_with fail
      rw [HDD.out]
      refine bodyPost_ret (v := .tuple #[.agg #[.int .i64 0, .int .i64 0, .string ⟨#[]⟩, .string ⟨#[]⟩, .int .i64 0, .slice none 0 0, .int .i64 0], .bool false]) (decS_results rfl rfl (set7 (fun i hi => ?_) _ _ _ _ _ _ _ _ _)) rfl ⟨.slice none 0 0, rfl, OChg.zero _ _, ?_⟩
      · match i, hi with
        | 0, _ => exact ⟨_, z0⟩
        | 1, _ => exact ⟨_, z1⟩
        | 2, _ => exact ⟨_, z2⟩
        | 3, _ => exact ⟨_, z3⟩
        | 4, _ => exact ⟨_, z4⟩
        | 5, _ => exact ⟨_, z5⟩
        | 6, _ => exact ⟨_, z6⟩
      · iterate 7 refine Below.setCell ?_ (by dsimp only; exact Nat.le_refl _) _
        exact bjoin HB06.out HB0.out
    have kb2 : (N0 == 2) = false := by simpa using k2
    by_cases k4 : N0 = 4
    · subst k4
      by_cases l4 : ps.length = 4
      · have e4 : ((ps.length - 3 : Nat) : Int) = 1 := by omega
        have e4b : ps.length - 3 = 1 := by omega
        have HC : Hid (C = ⟨4, N1, T2, ⟨#[]⟩, 0, [], N3⟩) := by show _ = _; rw [HLS.out]; simp [l4]
        rw [HC.out] at HEN HD2
        unfold chgV at HEN
        dsimp only at HEN
        obtain ⟨q0, q1, q2, q3, q4, _⟩ := KC.out W HBW.out
        have r3 := q3 (by omega)
        clear q0 q1 q2 q3 q4
        obtain ⟨⟨o0, o1, o2, o3, o4, o5, o6⟩, ⟨p0, p1, p2, p3, p4, p5, p6⟩, hzB⟩ := HBX.out
        go_wp2_with fail
        refine (U3.out _).mono ?_
        rintro e v5 ⟨rfl, hb5⟩
        have hx5 := (HBX.out).keep hb5
        have HX5 := hide hx5
        have HV5 : Hid (Below v1.heap.size v1 v5) := bjoin hb5 (HBW.out)
        clear o0 o1 o2 o3 o4 o5 o6 p0 p1 p2 p3 p4 p5 p6 hzB hb5 r3
        obtain ⟨⟨o0, o1, o2, o3, o4, o5, o6⟩, ⟨p0, p1, p2, p3, p4, p5, p6⟩, hzB⟩ := hx5
        go_wp2_with fail
        refine (HEN.out _ _ 0 ⟨by simp, .inl ⟨none, 0, rfl, rfl⟩⟩).mono ?_
        rintro e v6 ⟨rfl, hb6⟩
        have hx6 := (HX5.out.set6 N3).keep hb6
        have HV6 : Hid (Below v1.heap.size v1 v6) := bjoin hb6 (Below.setCell HV5.out (p := ⟨B, 6, none⟩) HBB.out _)
        have HB06 : Hid (Below x0.heap.size x0 v6) := bjoin HV6.out HB1.out
        clear o0 o1 o2 o3 o4 o5 o6 p0 p1 p2 p3 p4 p5 p6 hzB hb6
        obtain ⟨z0, z1, z2, z3, z4, z5, z6, y0, y1, y2, y3, y4, y5, y6, hzw⟩ := KZ.out v6 HB06.out
        obtain ⟨⟨o0, o1, o2, o3, o4, o5, o6⟩, ⟨p0, p1, p2, p3, p4, p5, p6⟩, hzB⟩ := hx6
        by_cases heq : E = s
        · subst heq
          have HDD : Hid (decS E = some ⟨4, N1, T2, ⟨#[]⟩, 0, [], N3⟩) := by show _ = _; rw [HD2.out, if_pos rfl]
          have hne : ¬ w.heap.size = B := by have h1 := HBB.out; have h2 := HB1.out.size; have h3 := HS0.out; omega
          have hne2 : ¬ B = w.heap.size := fun h => hne h.symm
          go_wp2_with fail
          rw [HDD.out]
          refine bodyPost_ret (v := .tuple #[.agg #[.int .i64 4, .int .i64 N1, .string T2, .string ⟨#[]⟩, .int .i64 0, .slice none 0 0, .int .i64 N3], .bool true]) (decS_results rfl rfl (set7 (fun i hi => ?_) _ _ _ _ _ _ _ _ _)) rfl ⟨.slice none 0 0, rfl, ?_, ?_⟩
          · match i, hi with
            | 0, _ => exact ⟨_, z0⟩
            | 1, _ => exact ⟨_, z1⟩
            | 2, _ => exact ⟨_, z2⟩
            | 3, _ => exact ⟨_, z3⟩
            | 4, _ => exact ⟨_, z4⟩
            | 5, _ => exact ⟨_, z5⟩
            | 6, _ => exact ⟨_, z6⟩
          · exact OChg.nil rfl _ _
          · iterate 7 refine Below.setCell ?_ (by dsimp only; exact Nat.le_refl _) _
            exact bjoin HB06.out HB0.out
        have hbe : (E.toList == s.toList) = false := bne_text heq
        have hbe2 : (E.toList != s.toList) = true := by rw [bne, hbe]; rfl
        have HDD : Hid (decS s = none) := by show _ = _; rw [HD2.out, if_neg heq]
        clear heq
        go_wp2_with fail
        rw [HDD.out]
        refine bodyPost_ret (v := .tuple #[.agg #[.int .i64 0, .int .i64 0, .string ⟨#[]⟩, .string ⟨#[]⟩, .int .i64 0, .slice none 0 0, .int .i64 0], .bool false]) (decS_results rfl rfl (set7 (fun i hi => ?_) _ _ _ _ _ _ _ _ _)) rfl ⟨.slice none 0 0, rfl, OChg.zero _ _, ?_⟩
        · match i, hi with
          | 0, _ => exact ⟨_, z0⟩
          | 1, _ => exact ⟨_, z1⟩
          | 2, _ => exact ⟨_, z2⟩
          | 3, _ => exact ⟨_, z3⟩
          | 4, _ => exact ⟨_, z4⟩
          | 5, _ => exact ⟨_, z5⟩
          | 6, _ => exact ⟨_, z6⟩
        · iterate 7 refine Below.setCell ?_ (by dsimp only; exact Nat.le_refl _) _
          exact bjoin HB06.out HB0.out
      have e4 : ¬ ((ps.length - 3 : Nat) : Int) = 1 := by omega
      have e4b : ¬ ps.length - 3 = 1 := by omega
      have HC : Hid (C = ⟨4, N1, T2, ⟨#[]⟩, 0, [], 0⟩) := by show _ = _; rw [HLS.out]; simp [l4]
      rw [HC.out] at HEN HD2
      unfold chgV at HEN
      dsimp only at HEN
      obtain ⟨q0, q1, q2, q3, q4, _⟩ := KC.out W HBW.out
      clear q0 q1 q2 q3 q4
      obtain ⟨⟨o0, o1, o2, o3, o4, o5, o6⟩, ⟨p0, p1, p2, p3, p4, p5, p6⟩, hzB⟩ := HBX.out
      go_wp2_with fail
      refine (HEN.out _ _ 0 ⟨by simp, .inl ⟨none, 0, rfl, rfl⟩⟩).mono ?_
      rintro e v6 ⟨rfl, hb6⟩
      have hx6 := (HBX.out).keep hb6
      have HV6 : Hid (Below v1.heap.size v1 v6) := bjoin hb6 (HBW.out)
      have HB06 : Hid (Below x0.heap.size x0 v6) := bjoin HV6.out HB1.out
      clear o0 o1 o2 o3 o4 o5 o6 p0 p1 p2 p3 p4 p5 p6 hzB hb6
      obtain ⟨z0, z1, z2, z3, z4, z5, z6, y0, y1, y2, y3, y4, y5, y6, hzw⟩ := KZ.out v6 HB06.out
      obtain ⟨⟨o0, o1, o2, o3, o4, o5, o6⟩, ⟨p0, p1, p2, p3, p4, p5, p6⟩, hzB⟩ := hx6
      by_cases heq : E = s
      · subst heq
        have HDD : Hid (decS E = some ⟨4, N1, T2, ⟨#[]⟩, 0, [], 0⟩) := by show _ = _; rw [HD2.out, if_pos rfl]
        have hne : ¬ w.heap.size = B := by have h1 := HBB.out; have h2 := HB1.out.size; have h3 := HS0.out; omega
        have hne2 : ¬ B = w.heap.size := fun h => hne h.symm
        go_wp2_with fail
        rw [HDD.out]
        refine bodyPost_ret (v := .tuple #[.agg #[.int .i64 4, .int .i64 N1, .string T2, .string ⟨#[]⟩, .int .i64 0, .slice none 0 0, .int .i64 0], .bool true]) (decS_results rfl rfl (set7 (fun i hi => ?_) _ _ _ _ _ _ _ _ _)) rfl ⟨.slice none 0 0, rfl, ?_, ?_⟩
        · match i, hi with
          | 0, _ => exact ⟨_, z0⟩
          | 1, _ => exact ⟨_, z1⟩
          | 2, _ => exact ⟨_, z2⟩
          | 3, _ => exact ⟨_, z3⟩
          | 4, _ => exact ⟨_, z4⟩
          | 5, _ => exact ⟨_, z5⟩
          | 6, _ => exact ⟨_, z6⟩
        · exact OChg.nil rfl _ _
        · iterate 7 refine Below.setCell ?_ (by dsimp only; exact Nat.le_refl _) _
          exact bjoin HB06.out HB0.out
      have hbe : (E.toList == s.toList) = false := bne_text heq
      have hbe2 : (E.toList != s.toList) = true := by rw [bne, hbe]; rfl
      have HDD : Hid (decS s = none) := by show _ = _; rw [HD2.out, if_neg heq]
      clear heq
      go_wp2_with fail
      rw [HDD.out]
      refine bodyPost_ret (v := .tuple #[.agg #[.int .i64 0, .int .i64 0, .string ⟨#[]⟩, .string ⟨#[]⟩, .int .i64 0, .slice none 0 0, .int .i64 0], .bool false]) (decS_results rfl rfl (set7 (fun i hi => ?_) _ _ _ _ _ _ _ _ _)) rfl ⟨.slice none 0 0, rfl, OChg.zero _ _, ?_⟩
      · match i, hi with
        | 0, _ => exact ⟨_, z0⟩
        | 1, _ => exact ⟨_, z1⟩
        | 2, _ => exact ⟨_, z2⟩
        | 3, _ => exact ⟨_, z3⟩
        | 4, _ => exact ⟨_, z4⟩
        | 5, _ => exact ⟨_, z5⟩
        | 6, _ => exact ⟨_, z6⟩
      · iterate 7 refine Below.setCell ?_ (by dsimp only; exact Nat.le_refl _) _
        exact bjoin HB06.out HB0.out
    have kb4 : (N0 == 4) = false := by simpa using k4
    have HC : Hid (C = ⟨N0, N1, T2, ⟨#[]⟩, 0, [], 0⟩) := by show _ = _; rw [HLS.out]; simp [k1, k2, k4]
    rw [HC.out] at HEN HD2
    unfold chgV at HEN
    dsimp only at HEN
    obtain ⟨q0, q1, q2, q3, q4, _⟩ := KC.out W HBW.out
    clear q0 q1 q2 q3 q4
    obtain ⟨⟨o0, o1, o2, o3, o4, o5, o6⟩, ⟨p0, p1, p2, p3, p4, p5, p6⟩, hzB⟩ := HBX.out
    go_wp2_with fail
    refine (HEN.out _ _ 0 ⟨by simp, .inl ⟨none, 0, rfl, rfl⟩⟩).mono ?_
    rintro e v6 ⟨rfl, hb6⟩
    have hx6 := (HBX.out).keep hb6
    have HV6 : Hid (Below v1.heap.size v1 v6) := bjoin hb6 (HBW.out)
    have HB06 : Hid (Below x0.heap.size x0 v6) := bjoin HV6.out HB1.out
    clear o0 o1 o2 o3 o4 o5 o6 p0 p1 p2 p3 p4 p5 p6 hzB hb6
    obtain ⟨z0, z1, z2, z3, z4, z5, z6, y0, y1, y2, y3, y4, y5, y6, hzw⟩ := KZ.out v6 HB06.out
    obtain ⟨⟨o0, o1, o2, o3, o4, o5, o6⟩, ⟨p0, p1, p2, p3, p4, p5, p6⟩, hzB⟩ := hx6
    by_cases heq : E = s
    · subst heq
      have HDD : Hid (decS E = some ⟨N0, N1, T2, ⟨#[]⟩, 0, [], 0⟩) := by show _ = _; rw [HD2.out, if_pos rfl]
      have hne : ¬ w.heap.size = B := by have h1 := HBB.out; have h2 := HB1.out.size; have h3 := HS0.out; omega
      have hne2 : ¬ B = w.heap.size := fun h => hne h.symm
      go_wp2_with fail
      rw [HDD.out]
      refine bodyPost_ret (v := .tuple #[.agg #[.int .i64 N0, .int .i64 N1, .string T2, .string ⟨#[]⟩, .int .i64 0, .slice none 0 0, .int .i64 0], .bool true]) (decS_results rfl rfl (set7 (fun i hi => ?_) _ _ _ _ _ _ _ _ _)) rfl ⟨.slice none 0 0, rfl, ?_, ?_⟩
      · match i, hi with
        | 0, _ => exact ⟨_, z0⟩
        | 1, _ => exact ⟨_, z1⟩
        | 2, _ => exact ⟨_, z2⟩
        | 3, _ => exact ⟨_, z3⟩
        | 4, _ => exact ⟨_, z4⟩
        | 5, _ => exact ⟨_, z5⟩
        | 6, _ => exact ⟨_, z6⟩
      · exact OChg.nil rfl _ _
      · iterate 7 refine Below.setCell ?_ (by dsimp only; exact Nat.le_refl _) _
        exact bjoin HB06.out HB0.out
    have hbe : (E.toList == s.toList) = false := bne_text heq
    have hbe2 : (E.toList != s.toList) = true := by rw [bne, hbe]; rfl
    have HDD : Hid (decS s = none) := by show _ = _; rw [HD2.out, if_neg heq]
    clear heq
    go_wp2_with fail
    rw [HDD.out]
    refine bodyPost_ret (v := .tuple #[.agg #[.int .i64 0, .int .i64 0, .string ⟨#[]⟩, .string ⟨#[]⟩, .int .i64 0, .slice none 0 0, .int .i64 0], .bool false]) (decS_results rfl rfl (set7 (fun i hi => ?_) _ _ _ _ _ _ _ _ _)) rfl ⟨.slice none 0 0, rfl, OChg.zero _ _, ?_⟩
    · match i, hi with
      | 0, _ => exact ⟨_, z0⟩
      | 1, _ => exact ⟨_, z1⟩
      | 2, _ => exact ⟨_, z2⟩
      | 3, _ => exact ⟨_, z3⟩
      | 4, _ => exact ⟨_, z4⟩
      | 5, _ => exact ⟨_, z5⟩
      | 6, _ => exact ⟨_, z6⟩
    · iterate 7 refine Below.setCell ?_ (by dsimp only; exact Nat.le_refl _) _
      exact bjoin HB06.out HB0.out
  · obtain ⟨W, hW⟩ : ∃ W, (((((((v3.setCell ⟨D.heap.size, 0, none⟩ (.int .i64 N0)).setCell ⟨D.heap.size, 1, none⟩ (.int .i64 N1)).setCell ⟨D.heap.size, 2, none⟩ (.string T2)).setCell ⟨D.heap.size, 3, none⟩ (.string ⟨#[]⟩)).setCell ⟨D.heap.size, 4, none⟩ (.int .i64 0)).setCell ⟨D.heap.size, 5, none⟩ (.slice none 0 0)).setCell ⟨D.heap.size, 6, none⟩ (.int .i64 0)) = W := ⟨_, rfl⟩
    obtain ⟨B, hB⟩ : ∃ B, D.heap.size = B := ⟨_, rfl⟩
    have hbx : Box7 W B N0 N1 T2 ⟨#[]⟩ 0 (.slice none 0 0) 0 := by
      rw [← hW, ← hB]
      refine Box7.of_set (fun i hi => ?_) hzo N0 N1 0 0 T2 ⟨#[]⟩ none 0 0
      match i, hi with
      | 0, _ => exact ⟨⟨_, o0⟩, p0⟩
      | 1, _ => exact ⟨⟨_, o1⟩, p1⟩
      | 2, _ => exact ⟨⟨_, o2⟩, p2⟩
      | 3, _ => exact ⟨⟨_, o3⟩, p3⟩
      | 4, _ => exact ⟨⟨_, o4⟩, p4⟩
      | 5, _ => exact ⟨⟨_, o5⟩, p5⟩
      | 6, _ => exact ⟨⟨_, o6⟩, p6⟩
    have hbw : Below v1.heap.size v1 W := by rw [← hW]; exact below7 hB3 hD.size _ _ _ _ _ _ _
    have hbB : v1.heap.size ≤ B := by rw [← hB]; exact hD.size
    rw [hW, hB]
    have HBX := hide hbx
    have HBW := hide hbw
    have HBB := hide hbB
    clear hW hB hbx hbw hbB hB3 hb3 hB2 hb2 hD hbd0 hwd o0 o1 o2 o3 o4 o5 o6 p0 p1 p2 p3 p4 p5 p6 hzo
    have m4 : (3 : Int) ≤ (ps.length : Int) := by omega
    have m7 : (3 : Int) ≤ (cap : Int) := by omega
    by_cases c3 : cap = 3
    · subst c3
      have l3 : ps.length = 3 := by omega
      have l3i : ((ps.length - 3 : Nat) : Int) = 0 := by omega
      have l3b : ps.length - 3 = 0 := by omega
      have HREST : Hid (∀ X, Below v1.heap.size v1 X → ∃ bs, OStrs X (.slice (some ⟨g, 0, none⟩) 0 0) ((ps.drop 3).map txt) bs ∧ bs.Nodup ∧ ∀ b ∈ bs, x0.heap.size ≤ b) := fun X _ => by rw [List.drop_eq_nil_of_le (by omega)]; exact ⟨[], ⟨by simp, .inl ⟨_, _, rfl, rfl, rfl⟩⟩, by simp, by simp⟩
      by_cases k1 : N0 = 1
      · subst k1
        have l5 : ¬ ps.length = 5 := by omega
        have e5 : ¬ ((ps.length - 3 : Nat) : Int) = 2 := by omega
        have e5b : ¬ ps.length - 3 = 2 := by omega
        have HC : Hid (C = ⟨1, N1, T2, ⟨#[]⟩, 0, [], 0⟩) := by show _ = _; rw [HLS.out]; simp [l5]
        rw [HC.out] at HEN HD2
        unfold chgV at HEN
        dsimp only at HEN
        obtain ⟨q0, q1, q2, q3, q4, _⟩ := KC.out W HBW.out
        clear q0 q1 q2 q3 q4
        obtain ⟨⟨o0, o1, o2, o3, o4, o5, o6⟩, ⟨p0, p1, p2, p3, p4, p5, p6⟩, hzB⟩ := HBX.out
        go_wp2_with fail
        refine (HEN.out _ _ 0 ⟨by simp, .inl ⟨none, 0, rfl, rfl⟩⟩).mono ?_
        rintro e v6 ⟨rfl, hb6⟩
        have hx6 := (HBX.out).keep hb6
        have HV6 : Hid (Below v1.heap.size v1 v6) := bjoin hb6 (HBW.out)
        have HB06 : Hid (Below x0.heap.size x0 v6) := bjoin HV6.out HB1.out
        clear o0 o1 o2 o3 o4 o5 o6 p0 p1 p2 p3 p4 p5 p6 hzB hb6
        obtain ⟨z0, z1, z2, z3, z4, z5, z6, y0, y1, y2, y3, y4, y5, y6, hzw⟩ := KZ.out v6 HB06.out
        obtain ⟨⟨o0, o1, o2, o3, o4, o5, o6⟩, ⟨p0, p1, p2, p3, p4, p5, p6⟩, hzB⟩ := hx6
        by_cases heq : E = s
        · subst heq
          have HDD : Hid (decS E = some ⟨1, N1, T2, ⟨#[]⟩, 0, [], 0⟩) := by show _ = _; rw [HD2.out, if_pos rfl]
          have hne : ¬ w.heap.size = B := by have h1 := HBB.out; have h2 := HB1.out.size; have h3 := HS0.out; omega
          have hne2 : ¬ B = w.heap.size := fun h => hne h.symm
          go_wp2_with fail
          rw [HDD.out]
          refine bodyPost_ret (v := .tuple #[.agg #[.int .i64 1, .int .i64 N1, .string T2, .string ⟨#[]⟩, .int .i64 0, .slice none 0 0, .int .i64 0], .bool true]) (decS_results rfl rfl (set7 (fun i hi => ?_) _ _ _ _ _ _ _ _ _)) rfl ⟨.slice none 0 0, rfl, ?_, ?_⟩
          · match i, hi with
            | 0, _ => exact ⟨_, z0⟩
            | 1, _ => exact ⟨_, z1⟩
            | 2, _ => exact ⟨_, z2⟩
            | 3, _ => exact ⟨_, z3⟩
            | 4, _ => exact ⟨_, z4⟩
            | 5, _ => exact ⟨_, z5⟩
            | 6, _ => exact ⟨_, z6⟩
          · exact OChg.nil rfl _ _
          · iterate 7 refine Below.setCell ?_ (by dsimp only; exact Nat.le_refl _) _
            exact bjoin HB06.out HB0.out
        have hbe : (E.toList == s.toList) = false := bne_text heq
        have hbe2 : (E.toList != s.toList) = true := by rw [bne, hbe]; rfl
        have HDD : Hid (decS s = none) := by show _ = _; rw [HD2.out, if_neg heq]
        clear heq
        go_wp2_with fail
        rw [HDD.out]
        refine bodyPost_ret (v := .tuple #[.agg #[.int .i64 0, .int .i64 0, .string ⟨#[]⟩, .string ⟨#[]⟩, .int .i64 0, .slice none 0 0, .int .i64 0], .bool false]) (decS_results rfl rfl (set7 (fun i hi => ?_) _ _ _ _ _ _ _ _ _)) rfl ⟨.slice none 0 0, rfl, OChg.zero _ _, ?_⟩
        · match i, hi with
          | 0, _ => exact ⟨_, z0⟩
          | 1, _ => exact ⟨_, z1⟩
          | 2, _ => exact ⟨_, z2⟩
          | 3, _ => exact ⟨_, z3⟩
          | 4, _ => exact ⟨_, z4⟩
          | 5, _ => exact ⟨_, z5⟩
          | 6, _ => exact ⟨_, z6⟩
        · iterate 7 refine Below.setCell ?_ (by dsimp only; exact Nat.le_refl _) _
          exact bjoin HB06.out HB0.out
      have kb1 : (N0 == 1) = false := by simpa using k1
      by_cases k2 : N0 = 2
      · subst k2
        have HC : Hid (C = ⟨2, N1, T2, ⟨#[]⟩, 0, (ps.drop 3).map txt, 0⟩) := by show _ = _; rw [HLS.out]; simp []
        rw [HC.out] at HEN HD2
        unfold chgV at HEN
        dsimp only at HEN
        obtain ⟨q0, q1, q2, q3, q4, _⟩ := KC.out W HBW.out
        clear q0 q1 q2 q3 q4
        obtain ⟨⟨o0, o1, o2, o3, o4, o5, o6⟩, ⟨p0, p1, p2, p3, p4, p5, p6⟩, hzB⟩ := HBX.out
        have HRE := hide (HREST.out)
        go_wp2_with fail
        have hOY := HRE.out _ (Below.setCell HBW.out (p := ⟨B, 5, none⟩) HBB.out (.slice (some ⟨g, 0, none⟩) 0 0))
        refine (HEN.out _ _ x0.heap.size (OAt.toAt toAt_str hOY.choose_spec.1 hOY.choose_spec.2.2)).mono ?_
        rintro e v6 ⟨rfl, hb6⟩
        have hx6 := (HBX.out.set5 (.slice (some ⟨g, 0, none⟩) 0 0)).keep hb6
        have HV6 : Hid (Below v1.heap.size v1 v6) := bjoin hb6 (Below.setCell HBW.out (p := ⟨B, 5, none⟩) HBB.out _)
        have HB06 : Hid (Below x0.heap.size x0 v6) := bjoin HV6.out HB1.out
        have HO6 := hide (HRE.out v6 HV6.out)
        clear hOY
        clear o0 o1 o2 o3 o4 o5 o6 p0 p1 p2 p3 p4 p5 p6 hzB hb6
        obtain ⟨z0, z1, z2, z3, z4, z5, z6, y0, y1, y2, y3, y4, y5, y6, hzw⟩ := KZ.out v6 HB06.out
        obtain ⟨⟨o0, o1, o2, o3, o4, o5, o6⟩, ⟨p0, p1, p2, p3, p4, p5, p6⟩, hzB⟩ := hx6
        by_cases heq : E = s
        · subst heq
          have HDD : Hid (decS E = some ⟨2, N1, T2, ⟨#[]⟩, 0, (ps.drop 3).map txt, 0⟩) := by show _ = _; rw [HD2.out, if_pos rfl]
          have hne : ¬ w.heap.size = B := by have h1 := HBB.out; have h2 := HB1.out.size; have h3 := HS0.out; omega
          have hne2 : ¬ B = w.heap.size := fun h => hne h.symm
          go_wp2_with fail
          rw [HDD.out]
          refine bodyPost_ret (v := .tuple #[.agg #[.int .i64 2, .int .i64 N1, .string T2, .string ⟨#[]⟩, .int .i64 0, .slice (some ⟨g, 0, none⟩) 0 0, .int .i64 0], .bool true]) (decS_results rfl rfl (set7 (fun i hi => ?_) _ _ _ _ _ _ _ _ _)) rfl ⟨.slice (some ⟨g, 0, none⟩) 0 0, rfl, ?_, ?_⟩
          · match i, hi with
            | 0, _ => exact ⟨_, z0⟩
            | 1, _ => exact ⟨_, z1⟩
            | 2, _ => exact ⟨_, z2⟩
            | 3, _ => exact ⟨_, z3⟩
            | 4, _ => exact ⟨_, z4⟩
            | 5, _ => exact ⟨_, z5⟩
            | 6, _ => exact ⟨_, z6⟩
          · have hlt : w.heap.size < x0.heap.size := by have := HS0.out; omega
            refine OChg.mono (base := x0.heap.size) ?_ (Nat.le_of_lt hlt)
            iterate 7 refine OChg.set ?_ hlt _
            exact HO6.out
          · iterate 7 refine Below.setCell ?_ (by dsimp only; exact Nat.le_refl _) _
            exact bjoin HB06.out HB0.out
        have hbe : (E.toList == s.toList) = false := bne_text heq
        have hbe2 : (E.toList != s.toList) = true := by rw [bne, hbe]; rfl
        have HDD : Hid (decS s = none) := by show _ = _; rw [HD2.out, if_neg heq]
        clear heq
        go_wp2_with fail
        rw [HDD.out]
        refine bodyPost_ret (v := .tuple #[.agg #[.int .i64 0, .int .i64 0, .string ⟨#[]⟩, .string ⟨#[]⟩, .int .i64 0, .slice none 0 0, .int .i64 0], .bool false]) (decS_results rfl rfl (set7 (fun i hi => ?_) _ _ _ _ _ _ _ _ _)) rfl ⟨.slice none 0 0, rfl, OChg.zero _ _, ?_⟩
        · match i, hi with
          | 0, _ => exact ⟨_, z0⟩
          | 1, _ => exact ⟨_, z1⟩
          | 2, _ => exact ⟨_, z2⟩
          | 3, _ => exact ⟨_, z3⟩
          | 4, _ => exact ⟨_, z4⟩
          | 5, _ => exact ⟨_, z5⟩
          | 6, _ => exact ⟨_, z6⟩
        · iterate 7 refine Below.setCell ?_ (by dsimp only; exact Nat.le_refl _) _
          exact bjoin HB06.out HB0.out
      have kb2 : (N0 == 2) = false := by simpa using k2
      by_cases k4 : N0 = 4
      · subst k4
        have l4 : ¬ ps.length = 4 := by omega
        have e4 : ¬ ((ps.length - 3 : Nat) : Int) = 1 := by omega
        have e4b : ¬ ps.length - 3 = 1 := by omega
        have HC : Hid (C = ⟨4, N1, T2, ⟨#[]⟩, 0, [], 0⟩) := by show _ = _; rw [HLS.out]; simp [l4]
        rw [HC.out] at HEN HD2
        unfold chgV at HEN
        dsimp only at HEN
        obtain ⟨q0, q1, q2, q3, q4, _⟩ := KC.out W HBW.out
        clear q0 q1 q2 q3 q4
        obtain ⟨⟨o0, o1, o2, o3, o4, o5, o6⟩, ⟨p0, p1, p2, p3, p4, p5, p6⟩, hzB⟩ := HBX.out
        go_wp2_with fail
        refine (HEN.out _ _ 0 ⟨by simp, .inl ⟨none, 0, rfl, rfl⟩⟩).mono ?_
        rintro e v6 ⟨rfl, hb6⟩
        have hx6 := (HBX.out).keep hb6
        have HV6 : Hid (Below v1.heap.size v1 v6) := bjoin hb6 (HBW.out)
        have HB06 : Hid (Below x0.heap.size x0 v6) := bjoin HV6.out HB1.out
        clear o0 o1 o2 o3 o4 o5 o6 p0 p1 p2 p3 p4 p5 p6 hzB hb6
        obtain ⟨z0, z1, z2, z3, z4, z5, z6, y0, y1, y2, y3, y4, y5, y6, hzw⟩ := KZ.out v6 HB06.out
        obtain ⟨⟨o0, o1, o2, o3, o4, o5, o6⟩, ⟨p0, p1, p2, p3, p4, p5, p6⟩, hzB⟩ := hx6
        by_cases heq : E = s
        · subst heq
          have HDD : Hid (decS E = some ⟨4, N1, T2, ⟨#[]⟩, 0, [], 0⟩) := by show _ = _; rw [HD2.out, if_pos rfl]
          have hne : ¬ w.heap.size = B := by have h1 := HBB.out; have h2 := HB1.out.size; have h3 := HS0.out; omega
          have hne2 : ¬ B = w.heap.size := fun h => hne h.symm
          go_wp2_with fail
          rw [HDD.out]
          refine bodyPost_ret (v := .tuple #[.agg #[.int .i64 4, .int .i64 N1, .string T2, .string ⟨#[]⟩, .int .i64 0, .slice none 0 0, .int .i64 0], .bool true]) (decS_results rfl rfl (set7 (fun i hi => ?_) _ _ _ _ _ _ _ _ _)) rfl ⟨.slice none 0 0, rfl, ?_, ?_⟩
          · match i, hi with
            | 0, _ => exact ⟨_, z0⟩
            | 1, _ => exact ⟨_, z1⟩
            | 2, _ => exact ⟨_, z2⟩
            | 3, _ => exact ⟨_, z3⟩
            | 4, _ => exact ⟨_, z4⟩
            | 5, _ => exact ⟨_, z5⟩
            | 6, _ => exact ⟨_, z6⟩
          · exact OChg.nil rfl _ _
          · iterate 7 refine Below.setCell ?_ (by dsimp only; exact Nat.le_refl _) _
            exact bjoin HB06.out HB0.out
        have hbe : (E.toList == s.toList) = false := bne_text heq
        have hbe2 : (E.toList != s.toList) = true := by rw [bne, hbe]; rfl
        have HDD : Hid (decS s = none) := by show _ = _; rw [HD2.out, if_neg heq]
        clear heq
        go_wp2_with fail
        rw [HDD.out]
        refine bodyPost_ret (v := .tuple #[.agg #[.int .i64 0, .int .i64 0, .string ⟨#[]⟩, .string ⟨#[]⟩, .int .i64 0, .slice none 0 0, .int .i64 0], .bool false]) (decS_results rfl rfl (set7 (fun i hi => ?_) _ _ _ _ _ _ _ _ _)) rfl ⟨.slice none 0 0, rfl, OChg.zero _ _, ?_⟩
        · match i, hi with
          | 0, _ => exact ⟨_, z0⟩
          | 1, _ => exact ⟨_, z1⟩
          | 2, _ => exact ⟨_, z2⟩
          | 3, _ => exact ⟨_, z3⟩
          | 4, _ => exact ⟨_, z4⟩
          | 5, _ => exact ⟨_, z5⟩
          | 6, _ => exact ⟨_, z6⟩
        · iterate 7 refine Below.setCell ?_ (by dsimp only; exact Nat.le_refl _) _
          exact bjoin HB06.out HB0.out
      have kb4 : (N0 == 4) = false := by simpa using k4
      have HC : Hid (C = ⟨N0, N1, T2, ⟨#[]⟩, 0, [], 0⟩) := by show _ = _; rw [HLS.out]; simp [k1, k2, k4]
      rw [HC.out] at HEN HD2
      unfold chgV at HEN
      dsimp only at HEN
      obtain ⟨q0, q1, q2, q3, q4, _⟩ := KC.out W HBW.out
      clear q0 q1 q2 q3 q4
      obtain ⟨⟨o0, o1, o2, o3, o4, o5, o6⟩, ⟨p0, p1, p2, p3, p4, p5, p6⟩, hzB⟩ := HBX.out
      go_wp2_with fail
      refine (HEN.out _ _ 0 ⟨by simp, .inl ⟨none, 0, rfl, rfl⟩⟩).mono ?_
      rintro e v6 ⟨rfl, hb6⟩
      have hx6 := (HBX.out).keep hb6
      have HV6 : Hid (Below v1.heap.size v1 v6) := bjoin hb6 (HBW.out)
      have HB06 : Hid (Below x0.heap.size x0 v6) := bjoin HV6.out HB1.out
      clear o0 o1 o2 o3 o4 o5 o6 p0 p1 p2 p3 p4 p5 p6 hzB hb6
      obtain ⟨z0, z1, z2, z3, z4, z5, z6, y0, y1, y2, y3, y4, y5, y6, hzw⟩ := KZ.out v6 HB06.out
      obtain ⟨⟨o0, o1, o2, o3, o4, o5, o6⟩, ⟨p0, p1, p2, p3, p4, p5, p6⟩, hzB⟩ := hx6
      by_cases heq : E = s
      · subst heq
        have HDD : Hid (decS E = some ⟨N0, N1, T2, ⟨#[]⟩, 0, [], 0⟩) := by show _ = _; rw [HD2.out, if_pos rfl]
        have hne : ¬ w.heap.size = B := by have h1 := HBB.out; have h2 := HB1.out.size; have h3 := HS0.out; omega
        have hne2 : ¬ B = w.heap.size := fun h => hne h.symm
        go_wp2_with fail
        rw [HDD.out]
        refine bodyPost_ret (v := .tuple #[.agg #[.int .i64 N0, .int .i64 N1, .string T2, .string ⟨#[]⟩, .int .i64 0, .slice none 0 0, .int .i64 0], .bool true]) (decS_results rfl rfl (set7 (fun i hi => ?_) _ _ _ _ _ _ _ _ _)) rfl ⟨.slice none 0 0, rfl, ?_, ?_⟩
        · match i, hi with
          | 0, _ => exact ⟨_, z0⟩
          | 1, _ => exact ⟨_, z1⟩
          | 2, _ => exact ⟨_, z2⟩
          | 3, _ => exact ⟨_, z3⟩
          | 4, _ => exact ⟨_, z4⟩
          | 5, _ => exact ⟨_, z5⟩
          | 6, _ => exact ⟨_, z6⟩
        · exact OChg.nil rfl _ _
        · iterate 7 refine Below.setCell ?_ (by dsimp only; exact Nat.le_refl _) _
          exact bjoin HB06.out HB0.out
      have hbe : (E.toList == s.toList) = false := bne_text heq
      have hbe2 : (E.toList != s.toList) = true := by rw [bne, hbe]; rfl
      have HDD : Hid (decS s = none) := by show _ = _; rw [HD2.out, if_neg heq]
      clear heq
      go_wp2_with fail
      rw [HDD.out]
      refine bodyPost_ret (v := .tuple #[.agg #[.int .i64 0, .int .i64 0, .string ⟨#[]⟩, .string ⟨#[]⟩, .int .i64 0, .slice none 0 0, .int .i64 0], .bool false]) (decS_results rfl rfl (set7 (fun i hi => ?_) _ _ _ _ _ _ _ _ _)) rfl ⟨.slice none 0 0, rfl, OChg.zero _ _, ?_⟩
      · match i, hi with
        | 0, _ => exact ⟨_, z0⟩
        | 1, _ => exact ⟨_, z1⟩
        | 2, _ => exact ⟨_, z2⟩
        | 3, _ => exact ⟨_, z3⟩
        | 4, _ => exact ⟨_, z4⟩
        | 5, _ => exact ⟨_, z5⟩
        | 6, _ => exact ⟨_, z6⟩
      · iterate 7 refine Below.setCell ?_ (by dsimp only; exact Nat.le_refl _) _
        exact bjoin HB06.out HB0.out
    have HREST : Hid (∀ X, Below v1.heap.size v1 X → ∃ bs, OStrs X (.slice (some ⟨g, 3, none⟩) (ps.length - 3) (cap - 3)) ((ps.drop 3).map txt) bs ∧ bs.Nodup ∧ ∀ b ∈ bs, x0.heap.size ≤ b) := fun X hX => parts_rest (by omega) (by omega) HPZ.out HGB.out (Nat.lt_of_lt_of_le HGL.out hX.size) (fun i hi => ⟨(hX.cell (p := ⟨g, i, none⟩) HGL.out).trans (HCS.out i hi).1, (hX.frozen (p := ⟨g, i, none⟩) HGL.out).trans (HCS.out i hi).2⟩)
    by_cases k1 : N0 = 1
    · subst k1
      by_cases l5 : ps.length = 5
      · have e5 : ((ps.length - 3 : Nat) : Int) = 2 := by omega
        have e5b : ps.length - 3 = 2 := by omega
        have HC : Hid (C = ⟨1, N1, T2, T3, N4, [], 0⟩) := by show _ = _; rw [HLS.out]; simp [l5]
        rw [HC.out] at HEN HD2
        unfold chgV at HEN
        dsimp only at HEN
        obtain ⟨q0, q1, q2, q3, q4, _⟩ := KC.out W HBW.out
        have r3 := q3 (by omega)
        have r4 := q4 (by omega)
        clear q0 q1 q2 q3 q4
        obtain ⟨⟨o0, o1, o2, o3, o4, o5, o6⟩, ⟨p0, p1, p2, p3, p4, p5, p6⟩, hzB⟩ := HBX.out
        have hgB : ¬ B = g := by have h1 := HBB.out; have h2 := HGL.out; omega
        have r4s : (W.setCell ⟨B, 3, none⟩ (.string T3)).cell? ⟨g, 4, none⟩ = some (.string T4) := by rw [sc_far hgB]; exact r4
        go_wp2_with fail
        refine (U4.out _).mono ?_
        rintro e v5 ⟨rfl, hb5⟩
        have hx5 := (HBX.out.set3 T3).keep hb5
        have HX5 := hide hx5
        have HV5 : Hid (Below v1.heap.size v1 v5) := bjoin hb5 (Below.setCell HBW.out (p := ⟨B, 3, none⟩) HBB.out _)
        clear o0 o1 o2 o3 o4 o5 o6 p0 p1 p2 p3 p4 p5 p6 hzB hb5 r3 r4 r4s
        obtain ⟨⟨o0, o1, o2, o3, o4, o5, o6⟩, ⟨p0, p1, p2, p3, p4, p5, p6⟩, hzB⟩ := hx5
        go_wp2_with fail
        refine (HEN.out _ _ 0 ⟨by simp, .inl ⟨none, 0, rfl, rfl⟩⟩).mono ?_
        rintro e v6 ⟨rfl, hb6⟩
        have hx6 := (HX5.out.set4 N4).keep hb6
        have HV6 : Hid (Below v1.heap.size v1 v6) := bjoin hb6 (Below.setCell HV5.out (p := ⟨B, 4, none⟩) HBB.out _)
        have HB06 : Hid (Below x0.heap.size x0 v6) := bjoin HV6.out HB1.out
        clear o0 o1 o2 o3 o4 o5 o6 p0 p1 p2 p3 p4 p5 p6 hzB hb6
        obtain ⟨z0, z1, z2, z3, z4, z5, z6, y0, y1, y2, y3, y4, y5, y6, hzw⟩ := KZ.out v6 HB06.out
        obtain ⟨⟨o0, o1, o2, o3, o4, o5, o6⟩, ⟨p0, p1, p2, p3, p4, p5, p6⟩, hzB⟩ := hx6
        by_cases heq : E = s
        · subst heq
          have HDD : Hid (decS E = some ⟨1, N1, T2, T3, N4, [], 0⟩) := by show _ = _; rw [HD2.out, if_pos rfl]
          have hne : ¬ w.heap.size = B := by have h1 := HBB.out; have h2 := HB1.out.size; have h3 := HS0.out; omega
          have hne2 : ¬ B = w.heap.size := fun h => hne h.symm
          go_wp2_with fail
          rw [HDD.out]
          refine bodyPost_ret (v := .tuple #[.agg #[.int .i64 1, .int .i64 N1, .string T2, .string T3, .int .i64 N4, .slice none 0 0, .int .i64 0], .bool true]) (decS_results rfl rfl (set7 (fun i hi => ?_) _ _ _ _ _ _ _ _ _)) rfl ⟨.slice none 0 0, rfl, ?_, ?_⟩
          · match i, hi with
            | 0, _ => exact ⟨_, z0⟩
            | 1, _ => exact ⟨_, z1⟩
            | 2, _ => exact ⟨_, z2⟩
            | 3, _ => exact ⟨_, z3⟩
            | 4, _ => exact ⟨_, z4⟩
            | 5, _ => exact ⟨_, z5⟩
            | 6, _ => exact ⟨_, z6⟩
          · exact OChg.nil rfl _ _
          · iterate 7 refine Below.setCell ?_ (by dsimp only; exact Nat.le_refl _) _
            exact bjoin HB06.out HB0.out
        have hbe : (E.toList == s.toList) = false := bne_text heq
        have hbe2 : (E.toList != s.toList) = true := by rw [bne, hbe]; rfl
        have HDD : Hid (decS s = none) := by show _ = _; rw [HD2.out, if_neg heq]
        clear heq
        go_wp2_with fail
        rw [HDD.out]
        refine bodyPost_ret (v := .tuple #[.agg #[.int .i64 0, .int .i64 0, .string ⟨#[]⟩, .string ⟨#[]⟩, .int .i64 0, .slice none 0 0, .int .i64 0], .bool false]) (decS_results rfl rfl (set7 (fun i hi => ?_) _ _ _ _ _ _ _ _ _)) rfl ⟨.slice none 0 0, rfl, OChg.zero _ _, ?_⟩
        · match i, hi with
          | 0, _ => exact ⟨_, z0⟩
          | 1, _ => exact ⟨_, z1⟩
          | 2, _ => exact ⟨_, z2⟩
          | 3, _ => exact ⟨_, z3⟩
          | 4, _ => exact ⟨_, z4⟩
          | 5, _ => exact ⟨_, z5⟩
          | 6, _ => exact ⟨_, z6⟩
        · iterate 7 refine Below.setCell ?_ (by dsimp only; exact Nat.le_refl _) _
          exact bjoin HB06.out HB0.out
      have e5 : ¬ ((ps.length - 3 : Nat) : Int) = 2 := by omega
      have e5b : ¬ ps.length - 3 = 2 := by omega
      have HC : Hid (C = ⟨1, N1, T2, ⟨#[]⟩, 0, [], 0⟩) := by show _ = _; rw [HLS.out]; simp [l5]
      rw [HC.out] at HEN HD2
      unfold chgV at HEN
      dsimp only at HEN
      obtain ⟨q0, q1, q2, q3, q4, _⟩ := KC.out W HBW.out
      clear q0 q1 q2 q3 q4
      obtain ⟨⟨o0, o1, o2, o3, o4, o5, o6⟩, ⟨p0, p1, p2, p3, p4, p5, p6⟩, hzB⟩ := HBX.out
      go_wp2_with fail
      refine (HEN.out _ _ 0 ⟨by simp, .inl ⟨none, 0, rfl, rfl⟩⟩).mono ?_
      rintro e v6 ⟨rfl, hb6⟩
      have hx6 := (HBX.out).keep hb6
      have HV6 : Hid (Below v1.heap.size v1 v6) := bjoin hb6 (HBW.out)
      have HB06 : Hid (Below x0.heap.size x0 v6) := bjoin HV6.out HB1.out
      clear o0 o1 o2 o3 o4 o5 o6 p0 p1 p2 p3 p4 p5 p6 hzB hb6
      obtain ⟨z0, z1, z2, z3, z4, z5, z6, y0, y1, y2, y3, y4, y5, y6, hzw⟩ := KZ.out v6 HB06.out
      obtain ⟨⟨o0, o1, o2, o3, o4, o5, o6⟩, ⟨p0, p1, p2, p3, p4, p5, p6⟩, hzB⟩ := hx6
      by_cases heq : E = s
      · subst heq
        have HDD : Hid (decS E = some ⟨1, N1, T2, ⟨#[]⟩, 0, [], 0⟩) := by show _ = _; rw [HD2.out, if_pos rfl]
        have hne : ¬ w.heap.size = B := by have h1 := HBB.out; have h2 := HB1.out.size; have h3 := HS0.out; omega
        have hne2 : ¬ B = w.heap.size := fun h => hne h.symm
        go_wp2_with fail
        rw [HDD.out]
        refine bodyPost_ret (v := .tuple #[.agg #[.int .i64 1, .int .i64 N1, .string T2, .string ⟨#[]⟩, .int .i64 0, .slice none 0 0, .int .i64 0], .bool true]) (decS_results rfl rfl (set7 (fun i hi => ?_) _ _ _ _ _ _ _ _ _)) rfl ⟨.slice none 0 0, rfl, ?_, ?_⟩
        · match i, hi with
          | 0, _ => exact ⟨_, z0⟩
          | 1, _ => exact ⟨_, z1⟩
          | 2, _ => exact ⟨_, z2⟩
          | 3, _ => exact ⟨_, z3⟩
          | 4, _ => exact ⟨_, z4⟩
          | 5, _ => exact ⟨_, z5⟩
          | 6, _ => exact ⟨_, z6⟩
        · exact OChg.nil rfl _ _
        · iterate 7 refine Below.setCell ?_ (by dsimp only; exact Nat.le_refl _) _
          exact bjoin HB06.out HB0.out
      have hbe : (E.toList == s.toList) = false := bne_text heq
      have hbe2 : (E.toList != s.toList) = true := by rw [bne, hbe]; rfl
      have HDD : Hid (decS s = none) := by show _ = _; rw [HD2.out, if_neg heq]
      clear heq
      go_wp2_with fail
      rw [HDD.out]
      refine bodyPost_ret (v := .tuple #[.agg #[.int .i64 0, .int .i64 0, .string ⟨#[]⟩, .string ⟨#[]⟩, .int .i64 0, .slice none 0 0, .int .i64 0], .bool false]) (decS_results rfl rfl (set7 (fun i hi => ?_) _ _ _ _ _ _ _ _ _)) rfl ⟨.slice none 0 0, rfl, OChg.zero _ _, ?_⟩
      · match i, hi with
        | 0, _ => exact ⟨_, z0⟩
        | 1, _ => exact ⟨_, z1⟩
        | 2, _ => exact ⟨_, z2⟩
        | 3, _ => exact ⟨_, z3⟩
        | 4, _ => exact ⟨_, z4⟩
        | 5, _ => exact ⟨_, z5⟩
        | 6, _ => exact ⟨_, z6⟩
      · iterate 7 refine Below.setCell ?_ (by dsimp only; exact Nat.le_refl _) _
        exact bjoin HB06.out HB0.out
    have kb1 : (N0 == 1) = false := by simpa using k1
    by_cases k2 : N0 = 2
    · subst k2
      have HC : Hid (C = ⟨2, N1, T2, ⟨#[]⟩, 0, (ps.drop 3).map txt, 0⟩) := by show _ = _; rw [HLS.out]; simp []
      rw [HC.out] at HEN HD2
      unfold chgV at HEN
      dsimp only at HEN
      obtain ⟨q0, q1, q2, q3, q4, _⟩ := KC.out W HBW.out
      clear q0 q1 q2 q3 q4
      obtain ⟨⟨o0, o1, o2, o3, o4, o5, o6⟩, ⟨p0, p1, p2, p3, p4, p5, p6⟩, hzB⟩ := HBX.out
      have HRE := hide (HREST.out)
      go_wp2_with fail
      have hOY := HRE.out _ (Below.setCell HBW.out (p := ⟨B, 5, none⟩) HBB.out (.slice (some ⟨g, 3, none⟩) (ps.length - 3) (cap - 3)))
      refine (HEN.out _ _ x0.heap.size (OAt.toAt toAt_str hOY.choose_spec.1 hOY.choose_spec.2.2)).mono ?_
      rintro e v6 ⟨rfl, hb6⟩
      have hx6 := (HBX.out.set5 (.slice (some ⟨g, 3, none⟩) (ps.length - 3) (cap - 3))).keep hb6
      have HV6 : Hid (Below v1.heap.size v1 v6) := bjoin hb6 (Below.setCell HBW.out (p := ⟨B, 5, none⟩) HBB.out _)
      have HB06 : Hid (Below x0.heap.size x0 v6) := bjoin HV6.out HB1.out
      have HO6 := hide (HRE.out v6 HV6.out)
      clear hOY
      clear o0 o1 o2 o3 o4 o5 o6 p0 p1 p2 p3 p4 p5 p6 hzB hb6
      obtain ⟨z0, z1, z2, z3, z4, z5, z6, y0, y1, y2, y3, y4, y5, y6, hzw⟩ := KZ.out v6 HB06.out
      obtain ⟨⟨o0, o1, o2, o3, o4, o5, o6⟩, ⟨p0, p1, p2, p3, p4, p5, p6⟩, hzB⟩ := hx6
      by_cases heq : E = s
      · subst heq
        have HDD : Hid (decS E = some ⟨2, N1, T2, ⟨#[]⟩, 0, (ps.drop 3).map txt, 0⟩) := by show _ = _; rw [HD2.out, if_pos rfl]
        have hne : ¬ w.heap.size = B := by have h1 := HBB.out; have h2 := HB1.out.size; have h3 := HS0.out; omega
        have hne2 : ¬ B = w.heap.size := fun h => hne h.symm
        go_wp2_with fail
        rw [HDD.out]
        refine bodyPost_ret (v := .tuple #[.agg #[.int .i64 2, .int .i64 N1, .string T2, .string ⟨#[]⟩, .int .i64 0, .slice (some ⟨g, 3, none⟩) (ps.length - 3) (cap - 3), .int .i64 0], .bool true]) (decS_results rfl rfl (set7 (fun i hi => ?_) _ _ _ _ _ _ _ _ _)) rfl ⟨.slice (some ⟨g, 3, none⟩) (ps.length - 3) (cap - 3), rfl, ?_, ?_⟩
        · match i, hi with
          | 0, _ => exact ⟨_, z0⟩
          | 1, _ => exact ⟨_, z1⟩
          | 2, _ => exact ⟨_, z2⟩
          | 3, _ => exact ⟨_, z3⟩
          | 4, _ => exact ⟨_, z4⟩
          | 5, _ => exact ⟨_, z5⟩
          | 6, _ => exact ⟨_, z6⟩
        · have hlt : w.heap.size < x0.heap.size := by have := HS0.out; omega
          refine OChg.mono (base := x0.heap.size) ?_ (Nat.le_of_lt hlt)
          iterate 7 refine OChg.set ?_ hlt _
          exact HO6.out
        · iterate 7 refine Below.setCell ?_ (by dsimp only; exact Nat.le_refl _) _
          exact bjoin HB06.out HB0.out
      have hbe : (E.toList == s.toList) = false := bne_text heq
      have hbe2 : (E.toList != s.toList) = true := by rw [bne, hbe]; rfl
      have HDD : Hid (decS s = none) := by show _ = _; rw [HD2.out, if_neg heq]
      clear heq
      go_wp2_with fail
      rw [HDD.out]
      refine bodyPost_ret (v := .tuple #[.agg #[.int .i64 0, .int .i64 0, .string ⟨#[]⟩, .string ⟨#[]⟩, .int .i64 0, .slice none 0 0, .int .i64 0], .bool false]) (decS_results rfl rfl (set7 (fun i hi => ?_) _ _ _ _ _ _ _ _ _)) rfl ⟨.slice none 0 0, rfl, OChg.zero _ _, ?_⟩
      · match i, hi with
        | 0, _ => exact ⟨_, z0⟩
        | 1, _ => exact ⟨_, z1⟩
        | 2, _ => exact ⟨_, z2⟩
        | 3, _ => exact ⟨_, z3⟩
        | 4, _ => exact ⟨_, z4⟩
        | 5, _ => exact ⟨_, z5⟩
        | 6, _ => exact ⟨_, z6⟩
      · iterate 7 refine Below.setCell ?_ (by dsimp only; exact Nat.le_refl _) _
        exact bjoin HB06.out HB0.out
    have kb2 : (N0 == 2) = false := by simpa using k2
    by_cases k4 : N0 = 4
    · subst k4
      by_cases l4 : ps.length = 4
      · have e4 : ((ps.length - 3 : Nat) : Int) = 1 := by omega
        have e4b : ps.length - 3 = 1 := by omega
        have HC : Hid (C = ⟨4, N1, T2, ⟨#[]⟩, 0, [], N3⟩) := by show _ = _; rw [HLS.out]; simp [l4]
        rw [HC.out] at HEN HD2
        unfold chgV at HEN
        dsimp only at HEN
        obtain ⟨q0, q1, q2, q3, q4, _⟩ := KC.out W HBW.out
        have r3 := q3 (by omega)
        clear q0 q1 q2 q3 q4
        obtain ⟨⟨o0, o1, o2, o3, o4, o5, o6⟩, ⟨p0, p1, p2, p3, p4, p5, p6⟩, hzB⟩ := HBX.out
        go_wp2_with fail
        refine (U3.out _).mono ?_
        rintro e v5 ⟨rfl, hb5⟩
        have hx5 := (HBX.out).keep hb5
        have HX5 := hide hx5
        have HV5 : Hid (Below v1.heap.size v1 v5) := bjoin hb5 (HBW.out)
        clear o0 o1 o2 o3 o4 o5 o6 p0 p1 p2 p3 p4 p5 p6 hzB hb5 r3
        obtain ⟨⟨o0, o1, o2, o3, o4, o5, o6⟩, ⟨p0, p1, p2, p3, p4, p5, p6⟩, hzB⟩ := hx5
        go_wp2_with fail
        refine (HEN.out _ _ 0 ⟨by simp, .inl ⟨none, 0, rfl, rfl⟩⟩).mono ?_
        rintro e v6 ⟨rfl, hb6⟩
        have hx6 := (HX5.out.set6 N3).keep hb6
        have HV6 : Hid (Below v1.heap.size v1 v6) := bjoin hb6 (Below.setCell HV5.out (p := ⟨B, 6, none⟩) HBB.out _)
        have HB06 : Hid (Below x0.heap.size x0 v6) := bjoin HV6.out HB1.out
        clear o0 o1 o2 o3 o4 o5 o6 p0 p1 p2 p3 p4 p5 p6 hzB hb6
        obtain ⟨z0, z1, z2, z3, z4, z5, z6, y0, y1, y2, y3, y4, y5, y6, hzw⟩ := KZ.out v6 HB06.out
        obtain ⟨⟨o0, o1, o2, o3, o4, o5, o6⟩, ⟨p0, p1, p2, p3, p4, p5, p6⟩, hzB⟩ := hx6
        by_cases heq : E = s
        · subst heq
          have HDD : Hid (decS E = some ⟨4, N1, T2, ⟨#[]⟩, 0, [], N3⟩) := by show _ = _; rw [HD2.out, if_pos rfl]
          have hne : ¬ w.heap.size = B := by have h1 := HBB.out; have h2 := HB1.out.size; have h3 := HS0.out; omega
          have hne2 : ¬ B = w.heap.size := fun h => hne h.symm
          go_wp2_with fail
          rw [HDD.out]
          refine bodyPost_ret (v := .tuple #[.agg #[.int .i64 4, .int .i64 N1, .string T2, .string ⟨#[]⟩, .int .i64 0, .slice none 0 0, .int .i64 N3], .bool true]) (decS_results rfl rfl (set7 (fun i hi => ?_) _ _ _ _ _ _ _ _ _)) rfl ⟨.slice none 0 0, rfl, ?_, ?_⟩
          · match i, hi with
            | 0, _ => exact ⟨_, z0⟩
            | 1, _ => exact ⟨_, z1⟩
            | 2, _ => exact ⟨_, z2⟩
            | 3, _ => exact ⟨_, z3⟩
            | 4, _ => exact ⟨_, z4⟩
            | 5, _ => exact ⟨_, z5⟩
            | 6, _ => exact ⟨_, z6⟩
          · exact OChg.nil rfl _ _
          · iterate 7 refine Below.setCell ?_ (by dsimp only; exact Nat.le_refl _) _
            exact bjoin HB06.out HB0.out
        have hbe : (E.toList == s.toList) = false := bne_text heq
        have hbe2 : (E.toList != s.toList) = true := by rw [bne, hbe]; rfl
        have HDD : Hid (decS s = none) := by show _ = _; rw [HD2.out, if_neg heq]
        clear heq
        go_wp2_with fail
        rw [HDD.out]
        refine bodyPost_ret (v := .tuple #[.agg #[.int .i64 0, .int .i64 0, .string ⟨#[]⟩, .string ⟨#[]⟩, .int .i64 0, .slice none 0 0, .int .i64 0], .bool false]) (decS_results rfl rfl (set7 (fun i hi => ?_) _ _ _ _ _ _ _ _ _)) rfl ⟨.slice none 0 0, rfl, OChg.zero _ _, ?_⟩
        · match i, hi with
          | 0, _ => exact ⟨_, z0⟩
          | 1, _ => exact ⟨_, z1⟩
          | 2, _ => exact ⟨_, z2⟩
          | 3, _ => exact ⟨_, z3⟩
          | 4, _ => exact ⟨_, z4⟩
          | 5, _ => exact ⟨_, z5⟩
          | 6, _ => exact ⟨_, z6⟩
        · iterate 7 refine Below.setCell ?_ (by dsimp only; exact Nat.le_refl _) _
          exact bjoin HB06.out HB0.out
      have e4 : ¬ ((ps.length - 3 : Nat) : Int) = 1 := by omega
      have e4b : ¬ ps.length - 3 = 1 := by omega
      have HC : Hid (C = ⟨4, N1, T2, ⟨#[]⟩, 0, [], 0⟩) := by show _ = _; rw [HLS.out]; simp [l4]
      rw [HC.out] at HEN HD2
      unfold chgV at HEN
      dsimp only at HEN
      obtain ⟨q0, q1, q2, q3, q4, _⟩ := KC.out W HBW.out
      clear q0 q1 q2 q3 q4
      obtain ⟨⟨o0, o1, o2, o3, o4, o5, o6⟩, ⟨p0, p1, p2, p3, p4, p5, p6⟩, hzB⟩ := HBX.out
      go_wp2_with fail
      refine (HEN.out _ _ 0 ⟨by simp, .inl ⟨none, 0, rfl, rfl⟩⟩).mono ?_
      rintro e v6 ⟨rfl, hb6⟩
      have hx6 := (HBX.out).keep hb6
      have HV6 : Hid (Below v1.heap.size v1 v6) := bjoin hb6 (HBW.out)
      have HB06 : Hid (Below x0.heap.size x0 v6) := bjoin HV6.out HB1.out
      clear o0 o1 o2 o3 o4 o5 o6 p0 p1 p2 p3 p4 p5 p6 hzB hb6
      obtain ⟨z0, z1, z2, z3, z4, z5, z6, y0, y1, y2, y3, y4, y5, y6, hzw⟩ := KZ.out v6 HB06.out
      obtain ⟨⟨o0, o1, o2, o3, o4, o5, o6⟩, ⟨p0, p1, p2, p3, p4, p5, p6⟩, hzB⟩ := hx6
      by_cases heq : E = s
      · subst heq
        have HDD : Hid (decS E = some ⟨4, N1, T2, ⟨#[]⟩, 0, [], 0⟩) := by show _ = _; rw [HD2.out, if_pos rfl]
        have hne : ¬ w.heap.size = B := by have h1 := HBB.out; have h2 := HB1.out.size; have h3 := HS0.out; omega
        have hne2 : ¬ B = w.heap.size := fun h => hne h.symm
        go_wp2_with fail
        rw [HDD.out]
        refine bodyPost_ret (v := .tuple #[.agg #[.int .i64 4, .int .i64 N1, .string T2, .string ⟨#[]⟩, .int .i64 0, .slice none 0 0, .int .i64 0], .bool true]) (decS_results rfl rfl (set7 (fun i hi => ?_) _ _ _ _ _ _ _ _ _)) rfl ⟨.slice none 0 0, rfl, ?_, ?_⟩
        · match i, hi with
          | 0, _ => exact ⟨_, z0⟩
          | 1, _ => exact ⟨_, z1⟩
          | 2, _ => exact ⟨_, z2⟩
          | 3, _ => exact ⟨_, z3⟩
          | 4, _ => exact ⟨_, z4⟩
          | 5, _ => exact ⟨_, z5⟩
          | 6, _ => exact ⟨_, z6⟩
        · exact OChg.nil rfl _ _
        · iterate 7 refine Below.setCell ?_ (by dsimp only; exact Nat.le_refl _) _
          exact bjoin HB06.out HB0.out
      have hbe : (E.toList == s.toList) = false := bne_text heq
      have hbe2 : (E.toList != s.toList) = true := by rw [bne, hbe]; rfl
      have HDD : Hid (decS s = none) := by show _ = _; rw [HD2.out, if_neg heq]
      clear heq
      go_wp2_with fail
      rw [HDD.out]
      refine bodyPost_ret (v := .tuple #[.agg #[.int .i64 0, .int .i64 0, .string ⟨#[]⟩, .string ⟨#[]⟩, .int .i64 0, .slice none 0 0, .int .i64 0], .bool false]) (decS_results rfl rfl (set7 (fun i hi => ?_) _ _ _ _ _ _ _ _ _)) rfl ⟨.slice none 0 0, rfl, OChg.zero _ _, ?_⟩
      · match i, hi with
        | 0, _ => exact ⟨_, z0⟩
        | 1, _ => exact ⟨_, z1⟩
        | 2, _ => exact ⟨_, z2⟩
        | 3, _ => exact ⟨_, z3⟩
        | 4, _ => exact ⟨_, z4⟩
        | 5, _ => exact ⟨_, z5⟩
        | 6, _ => exact ⟨_, z6⟩
      · iterate 7 refine Below.setCell ?_ (by dsimp only; exact Nat.le_refl _) _
        exact bjoin HB06.out HB0.out
    have kb4 : (N0 == 4) = false := by simpa using k4
    have HC : Hid (C = ⟨N0, N1, T2, ⟨#[]⟩, 0, [], 0⟩) := by show _ = _; rw [HLS.out]; simp [k1, k2, k4]
    rw [HC.out] at HEN HD2
    unfold chgV at HEN
    dsimp only at HEN
    obtain ⟨q0, q1, q2, q3, q4, _⟩ := KC.out W HBW.out
    clear q0 q1 q2 q3 q4
    obtain ⟨⟨o0, o1, o2, o3, o4, o5, o6⟩, ⟨p0, p1, p2, p3, p4, p5, p6⟩, hzB⟩ := HBX.out
    go_wp2_with fail
    refine (HEN.out _ _ 0 ⟨by simp, .inl ⟨none, 0, rfl, rfl⟩⟩).mono ?_
    rintro e v6 ⟨rfl, hb6⟩
    have hx6 := (HBX.out).keep hb6
    have HV6 : Hid (Below v1.heap.size v1 v6) := bjoin hb6 (HBW.out)
    have HB06 : Hid (Below x0.heap.size x0 v6) := bjoin HV6.out HB1.out
    clear o0 o1 o2 o3 o4 o5 o6 p0 p1 p2 p3 p4 p5 p6 hzB hb6
    obtain ⟨z0, z1, z2, z3, z4, z5, z6, y0, y1, y2, y3, y4, y5, y6, hzw⟩ := KZ.out v6 HB06.out
    obtain ⟨⟨o0, o1, o2, o3, o4, o5, o6⟩, ⟨p0, p1, p2, p3, p4, p5, p6⟩, hzB⟩ := hx6
    by_cases heq : E = s
    · subst heq
      have HDD : Hid (decS E = some ⟨N0, N1, T2, ⟨#[]⟩, 0, [], 0⟩) := by show _ = _; rw [HD2.out, if_pos rfl]
      have hne : ¬ w.heap.size = B := by have h1 := HBB.out; have h2 := HB1.out.size; have h3 := HS0.out; omega
      have hne2 : ¬ B = w.heap.size := fun h => hne h.symm
      go_wp2_with fail
      rw [HDD.out]
      refine bodyPost_ret (v := .tuple #[.agg #[.int .i64 N0, .int .i64 N1, .string T2, .string ⟨#[]⟩, .int .i64 0, .slice none 0 0, .int .i64 0], .bool true]) (decS_results rfl rfl (set7 (fun i hi => ?_) _ _ _ _ _ _ _ _ _)) rfl ⟨.slice none 0 0, rfl, ?_, ?_⟩
      · match i, hi with
        | 0, _ => exact ⟨_, z0⟩
        | 1, _ => exact ⟨_, z1⟩
        | 2, _ => exact ⟨_, z2⟩
        | 3, _ => exact ⟨_, z3⟩
        | 4, _ => exact ⟨_, z4⟩
        | 5, _ => exact ⟨_, z5⟩
        | 6, _ => exact ⟨_, z6⟩
      · exact OChg.nil rfl _ _
      · iterate 7 refine Below.setCell ?_ (by dsimp only; exact Nat.le_refl _) _
        exact bjoin HB06.out HB0.out
    have hbe : (E.toList == s.toList) = false := bne_text heq
    have hbe2 : (E.toList != s.toList) = true := by rw [bne, hbe]; rfl
    have HDD : Hid (decS s = none) := by show _ = _; rw [HD2.out, if_neg heq]
    clear heq
    go_wp2_with fail
    rw [HDD.out]
    refine bodyPost_ret (v := .tuple #[.agg #[.int .i64 0, .int .i64 0, .string ⟨#[]⟩, .string ⟨#[]⟩, .int .i64 0, .slice none 0 0, .int .i64 0], .bool false]) (decS_results rfl rfl (set7 (fun i hi => ?_) _ _ _ _ _ _ _ _ _)) rfl ⟨.slice none 0 0, rfl, OChg.zero _ _, ?_⟩
    · match i, hi with
      | 0, _ => exact ⟨_, z0⟩
      | 1, _ => exact ⟨_, z1⟩
      | 2, _ => exact ⟨_, z2⟩
      | 3, _ => exact ⟨_, z3⟩
      | 4, _ => exact ⟨_, z4⟩
      | 5, _ => exact ⟨_, z5⟩
      | 6, _ => exact ⟨_, z6⟩
    · iterate 7 refine Below.setCell ?_ (by dsimp only; exact Nat.le_refl _) _
      exact bjoin HB06.out HB0.out
end Go.Proofs.YtpmnepalchgcbaaGreatDoor.Msg
