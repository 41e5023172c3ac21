import Derived.Test.YtcphfhfockjljaaDoorSpoilKitwithDrawLong
namespace Go.Proofs.YtcphfhfockjljaaDoor.Msg
open Go.ChangeShapes Go.WideShapes Go.ChangeAt Go.RowKit
set_option linter.unusedVariables false
set_option linter.unusedSimpArgs false

def spoil (cs : List UInt8) (p : Nat) (m : List Seg) : List Seg :=
  if tk cs p 12 = 10 then [] else if tk cs p 12 = 11 then [⟨⟨#[77, 83, 72]⟩, []⟩, ⟨⟨#[90, 90, 90]⟩, [[[longS ⟨#[118]⟩ (39986 + tk cs (p + 1 + 1) 2 + 1) (39986 + tk cs (p + 1 + 1) 2)]]]⟩]
  else if tk cs p 12 = 9 then spSegs (tk cs p 12) (tk cs (p + 1) m.length) (tk cs (p + 1 + 1) 2) m m.length ++ List.replicate (250 + tk cs (p + 1 + 1) 2 - m.length) ⟨⟨#[90, 90, 90]⟩, []⟩
  else spSegs (tk cs p 12) (tk cs (p + 1) m.length) (tk cs (p + 1 + 1) 2) m m.length
theorem SgRow.segsL {base L : Nat} {bad : Nat → Prop} {w : World} {v : Value} {ps : List SgE} (h : SgRow base bad w v ps) (hl : ps.length ≤ 9223372036854775807) (hL : L ≤ base) (hbad : ∀ b, b < L → bad b) : SegsAt L w v (ps.map Prod.fst) := by
  obtain ⟨h0, hA⟩ := FB.at (C := sgC) (c := 2) (Z := fun _ => True) (fun _ => rfl) h.row hl (fun i hi => trivial)
  refine ⟨by rw [List.length_map]; exact h0, ?_⟩
  rcases hA with ⟨a, cap, e, e2⟩ | ⟨b, off, cap, e, hb, hA⟩
  · exact .inl ⟨a, cap, e, by rw [e2]; rfl⟩
  · refine .inr ⟨b, off, cap, by rw [List.length_map]; exact e, ⟨Nat.le_trans hL hb.1, hb.2⟩, fun i hi => ?_⟩
    have hi' : i < ps.length := by rw [List.length_map] at hi; exact hi
    rw [List.getElem_map]
    have h1 := (hA i hi').1
    obtain ⟨bs, hO, hbs⟩ := h.el ps[i] (List.getElem_mem hi')
    refine ⟨by simpa [sgC] using h1 0 (by simp [sgC]), h.nm _ (List.getElem_mem hi'), sgV ps[i], by simpa [sgC, sgV] using h1 1 (by simp [sgC]), OAt.toAt toAt_field hO fun d hd => ?_⟩
    by_cases hd' : L ≤ d
    · exact hd'
    · exact absurd (hbad d (by omega)) (hbs d hd).2.1
theorem seg2_at {w : World} {b b2 lo : Nat} {n0 n1 : ByteArray} {fv : Value} {f : Field} {bs : List Nat} (h : Box w b 44 #[.string n0, .slice none 0 0, .string n1, .slice (some ⟨b2, 0, none⟩) 1 1]) (h2 : Box w b2 47 #[fv]) (hO : OReps w fv f bs) (l1 : lo ≤ b) (l2 : lo ≤ b2) (l3 : ∀ d ∈ bs, lo ≤ d) (z0 : n0.size ≤ 9223372036854775807 := by decide) (z1 : n1.size ≤ 9223372036854775807 := by decide) : SegsAt lo w (.slice (some ⟨b, 0, none⟩) 2 2) [⟨n0, []⟩, ⟨n1, [f]⟩] := by
  refine ⟨by simp, .inr ⟨b, 0, 2, rfl, ⟨l1, h.lt⟩, fun i hi => ?_⟩⟩
  have hi' : i < 2 := hi
  match i, hi' with
  | 0, _ => exact ⟨by simpa using h.cell 0 (by simp), z0, .slice none 0 0, by simpa using h.cell 1 (by simp), by simp, .inl ⟨none, 0, rfl, rfl⟩⟩
  | 1, _ => exact ⟨by simpa using h.cell 2 (by simp), z1, .slice (some ⟨b2, 0, none⟩) 1 1, by simpa using h.cell 3 (by simp), by simp, .inr ⟨b2, 0, 1, rfl, ⟨l2, h2.lt⟩, fun j hj => by
      obtain rfl : j = 0 := by simp at hj; omega
      exact ⟨fv, by simpa using h2.cell 0 (by simp), OAt.toAt toAt_rep hO l3⟩⟩⟩
theorem keep_strs0 : KeepO OStrs := fun _ _ _ _ _ h s d => OAt.kept keptO_str h s d
theorem spSeg_len (A X : Nat) (s : Seg) (h : s.fields.length ≤ 20) (hx : X ≤ 1) : (spSeg A X s).fields.length ≤ 1000 := by
  unfold spSeg
  repeat (split; · (try simp only [List.length_append, List.length_replicate, List.length_cons, List.length_nil]); omega)
  omega
theorem spSeg_name (A X : Nat) (s : Seg) (h : s.name.size ≤ 3) : (spSeg A X s).name.size ≤ 3 := by
  unfold spSeg
  repeat (split; · first | exact h | exact (by decide : (3 : Nat) ≤ 3) | exact (by decide : (1 : Nat) ≤ 3))
  exact h
theorem spSeg_no (A X : Nat) (s : Seg) (h : 9 ≤ A) : spSeg A X s = s := by
  unfold spSeg
  rw [if_neg (by omega), if_neg (by omega), if_neg (by omega), if_neg (by omega), if_neg (by omega), if_neg (by omega), if_neg (by omega), if_neg (by omega), if_neg (by omega)]
theorem o_texts {w : World} {b : Nat} {xs : List ByteArray} (h : Box w b 9 (xs.map Value.string).toArray) (hl : xs.length ≤ 1000) (hz : ∀ s ∈ xs, s.size ≤ 9223372036854775807) {c : Nat} : OStrs w (.slice (some ⟨b, 0, none⟩) xs.length c) xs [b] := by
  refine ⟨by omega, .inr ⟨b, 0, c, List.replicate xs.length [], rfl, h.lt, by simp, by simp, fun i hi h2 => ?_⟩⟩
  have q := h.cell i (by simpa using hi)
  refine ⟨by simpa using q, by simpa using h.frozen i, hz _ (List.getElem_mem hi), by simp⟩
theorem o_rep1 {w : World} {b : Nat} {v : Value} {xs : Rep} {bs : List Nat} (h : Box w b 50 #[v]) (hO : OStrs w v xs bs) {c : Nat} : OReps w (.slice (some ⟨b, 0, none⟩) 1 c) [xs] (b :: bs) := by
  refine ⟨by simp, .inr ⟨b, 0, c, [bs], rfl, h.lt, by simp, rfl, fun i hi h2 => ?_⟩⟩
  obtain rfl : i = 0 := by simp at hi; omega
  exact ⟨v, by simpa using h.cell 0 (by simp), hO⟩
theorem boxS (w : World) (o : Obj) (t : TypeId) (cs : Array Value) : Box ((w.alloc o).alloc (.cells cs t)) (w.heap.size + 1) t cs := by
  have := Box.new (w.alloc o) t cs
  rw [Deep.nblk_alloc] at this
  exact this
theorem Below.unset {B : Nat} {w X : World} {b o : Nat} {x : Value} (h : Below B w (X.setCell ⟨b, o, none⟩ x)) (hb : B ≤ b) : Below B w X :=
  ⟨h.os, h.tape, h.output, by have := h.size; rw [Deep.nblk_setCell] at this; exact this, fun k hk => by have := h.block k hk; rw [Deep.blk_setCell_other _ ⟨b, o, none⟩ _ k (by dsimp only; omega)] at this; exact this⟩
theorem Below.al3 {w X : World} {o : Obj} (h : Below w.heap.size w X) : Below w.heap.size w (X.alloc o) := h.alloc h.size o

set_option maxRecDepth 100000 in
set_option maxHeartbeats 16000000 in
theorem spoil_any (cs : List UInt8) (v : Value) (p : Nat) (ms : List SgE) (a : Option Addr) (c : Nat) (w : World) {lo bb : Nat} {bd : Nat → Prop} (hv : CodeAt lo w v cs) (hl : cs.length ≤ 1048576) (hp : p ≤ 3000000) (hrow : SgRow bb bd w (.slice a ms.length c) ms) (hml : ms.length ≤ 100) (hfl : ∀ q ∈ ms, q.1.fields.length ≤ 20 ∧ q.1.name.size ≤ 3) {L : Nat} (hLw : L ≤ w.heap.size) (hL : ∀ b, b < L → bd b) :
    Calls Tryd.prog 13 #[v, .int .i64 (p : Int), .agg #[.slice a ms.length c]] w fun e w' => ∃ u, e = .returned (.agg #[u]) ∧ SegsAt L w' u (spoil cs p (ms.map Prod.fst)) ∧ Below w.heap.size w w' := by
  have HV := hide hv
  obtain ⟨va, vc, rfl, _⟩ := code_form hv
  have HTK := hide (fun (W : World) (q n : Nat) (h : Below w.heap.size w W) (hq : q ≤ 4000000) (hn : n ≤ 100) => take_any cs (.slice va cs.length vc) q n W (At.kept kept_code HV.out h) hl (by omega) (by omega))
  have HRM := hide hrow
  have HFL := hide hfl
  have HL := hide hL
  clear hL
  obtain ⟨mm, hmm⟩ : ∃ m, ms.map Prod.fst = m := ⟨_, rfl⟩
  have HMM := hide hmm
  have hmn : mm.length = ms.length := by rw [← hmm, List.length_map]
  obtain ⟨r9, hr9⟩ : ∃ r, spoil cs p mm = r := ⟨_, rfl⟩
  have HR9 := hide hr9
  rw [hmm, hr9]
  unfold spoil at HR9
  rw [hmn] at HR9
  obtain ⟨n, hn⟩ : ∃ n, ms.length = n := ⟨_, rfl⟩
  have HN := hide hn
  rw [hn] at HR9 HRM hml hmn ⊢
  have hA := tk_lt cs p 12 (by decide)
  have hX := tk_lt cs (p + 1 + 1) 2 (by decide)
  obtain ⟨x1, hx1⟩ : ∃ x, w.alloc (Obj.cells #[.slice a n c] 25) = x := ⟨_, rfl⟩
  obtain ⟨x2, hx2⟩ : ∃ x, x1.alloc (Obj.cells #[.slice none 0 0] 25) = x := ⟨_, rfl⟩
  have sx1 : x1.heap.size = w.heap.size + 1 := by rw [← hx1]; simp
  have sx2 : x2.heap.size = w.heap.size + 2 := by rw [← hx2]; simp [sx1]
  have bx1 : Below w.heap.size w x1 := by rw [← hx1]; exact (Below.refl _ _).alloc (Nat.le_refl _) _
  have bx2 : Below w.heap.size w x2 := by rw [← hx2]; exact Below.al3 bx1
  have HP2 : Hid (Box x2 w.heap.size 25 #[.slice a n c]) := by rw [← hx2, ← hx1]; exact (Box.new _ _ _).alloc _
  have HQ2 : Hid (Box x2 (w.heap.size + 1) 25 #[.slice none 0 0]) := by rw [← hx2, ← sx1]; exact Box.new _ _ _
  have mp : x2.cell? ⟨w.heap.size, 0, none⟩ = some (.slice a n c) := HP2.out.cell 0 (by simp)
  have HX2 : Hid ((w.alloc (Obj.cells #[.slice a n c] 25)).alloc (Obj.cells #[.slice none 0 0] 25) = x2) := by rw [hx1]; exact hx2
  have HB2 := hide bx2
  have HS2 := hide sx2
  obtain ⟨M, hM⟩ : ∃ M, w.heap.size + 2 = M := ⟨_, rfl⟩
  rw [hM] at HS2
  have HM := hide hM
  have HT1 := hide (HTK.out x2 p 12 bx2 (by omega) (by decide))
  have HT2 := hide (HTK.out x2 (p + 1) n bx2 (by omega) hml)
  have HT3 := hide (HTK.out x2 (p + 1 + 1) 2 bx2 (by omega) (by decide))
  obtain ⟨A, hAe⟩ : ∃ A, tk cs p 12 = A := ⟨_, rfl⟩
  obtain ⟨AT, hATe⟩ : ∃ A, tk cs (p + 1) n = A := ⟨_, rfl⟩
  obtain ⟨X, hXe⟩ : ∃ A, tk cs (p + 1 + 1) 2 = A := ⟨_, rfl⟩
  rw [hAe] at HT1 HR9 hA
  rw [hATe] at HT2 HR9
  rw [hXe] at HT3 HR9 hX
  obtain ⟨p1, hp1⟩ : ∃ q, p + 1 = q := ⟨_, rfl⟩
  rw [hp1] at HT1 HT2 HT3
  obtain ⟨p2, hp2⟩ : ∃ q, p1 + 1 = q := ⟨_, rfl⟩
  rw [hp2] at HT2 HT3
  clear hM hv hrow hfl hmm hr9 hn hx1 hx2 sx1 sx2 bx1 bx2 hAe hATe hXe hp1 hp2 hmn
  go_enter Tryd.func13, Tryd.ntmps13
  go_wp2_with fail
  rw [HX2.out]
  refine HT1.out.mono ?_
  rintro e y ⟨rfl, hy⟩
  (try rw [hy])
  clear hy y
  go_wp2_with fail
  refine HT2.out.mono ?_
  rintro e y ⟨rfl, hy⟩
  (try rw [hy])
  clear hy y
  go_wp2_with fail
  refine HT3.out.mono ?_
  rintro e y ⟨rfl, hy⟩
  (try rw [hy])
  clear hy y HT1 HT2 HT3
  have hs2 := HS2.out
  go_wp2_with fail
  obtain ⟨W0, hW0⟩ : ∃ x, (((x2.alloc (Obj.cells #[.slice none 0 0] 25)).alloc (Obj.cells #[.string ⟨#[118]⟩] 9)).alloc (Obj.cells #[.slice (some ⟨M + 1, 0, none⟩) 1 1] 50)).alloc (Obj.cells #[.slice (some ⟨M + 1 + 1, 0, none⟩) 1 1] 47) = x := ⟨_, rfl⟩
  have hM := HM.out
  have sW0 : W0.heap.size = M + 4 := by rw [← hW0]; simp [hs2]
  have HBW : Hid (Below w.heap.size w W0) := by rw [← hW0]; exact Below.al3 (Below.al3 (Below.al3 (Below.al3 HB2.out)))
  have HPW : Hid (Box W0 w.heap.size 25 #[.slice a n c]) := by rw [← hW0]; exact (((HP2.out.alloc _).alloc _).alloc _).alloc _
  have HQW : Hid (Box W0 (w.heap.size + 1) 25 #[.slice none 0 0]) := by rw [← hW0]; exact (((HQ2.out.alloc _).alloc _).alloc _).alloc _
  have HMW : Hid (Box W0 M 25 #[.slice none 0 0]) := by rw [← hW0, ← hs2]; exact (((Box.new x2 25 _).alloc _).alloc _).alloc _
  have H1W : Hid (Box W0 (M + 1) 9 #[.string ⟨#[118]⟩]) := by
    rw [← hW0, ← hs2]
    exact ((boxS x2 _ 9 _).alloc _).alloc _
  have H2W : Hid (Box W0 (M + 1 + 1) 50 #[.slice (some ⟨M + 1, 0, none⟩) 1 1]) := by
    rw [← hW0]
    have := (boxS (x2.alloc (Obj.cells #[.slice none 0 0] 25)) (Obj.cells #[.string ⟨#[118]⟩] 9) 50 #[.slice (some ⟨M + 1, 0, none⟩) 1 1]).alloc (Obj.cells #[.slice (some ⟨M + 1 + 1, 0, none⟩) 1 1] 47)
    rw [Deep.nblk_alloc, hs2] at this
    exact this
  have H3W : Hid (Box W0 (M + 1 + 1 + 1) 47 #[.slice (some ⟨M + 1 + 1, 0, none⟩) 1 1]) := by
    rw [← hW0]
    have := boxS ((x2.alloc (Obj.cells #[.slice none 0 0] 25)).alloc (Obj.cells #[.string ⟨#[118]⟩] 9)) (Obj.cells #[.slice (some ⟨M + 1, 0, none⟩) 1 1] 50) 47 #[.slice (some ⟨M + 1 + 1, 0, none⟩) 1 1]
    rw [Deep.nblk_alloc, Deep.nblk_alloc, hs2] at this
    exact this
  rw [hW0]
  have HSW := hide sW0
  clear hW0 hs2 hM sW0 mp HX2
  go_loopg [12] n (fun q i wr => ∃ (k : Nat) (ps : List SgE) (am : Option Addr) (cm : Nat), k ≤ n ∧ q = n - k ∧ i = .int .i64 (k : Int) ∧ Box wr M 25 #[.slice am k cm] ∧ SgRow W0.heap.size (fun b => b = M ∨ b = w.heap.size + 1 ∨ b < L) wr (.slice am k cm) ps ∧ ps.map Prod.fst = spSegs A AT X mm k ∧ Only [M] W0 wr)
  case atStart => exact ⟨0, [], none, 0, Nat.zero_le _, rfl, rfl, HMW.out, SgRow.nil _ _ _, rfl, Only.refl _ _⟩
  case round =>
    obtain ⟨k, ps, am, cm, hk, rfl, rfl, hBM, hRow, hps, hOnly⟩ := hrel
    obtain ⟨Y, rfl⟩ : ∃ x, x = wr := ⟨_, rfl⟩
    have HBM := hide hBM
    have HRW := hide hRow
    have HPS := hide hps
    have HON := hide hOnly
    have hM := HM.out
    have hsw := HSW.out
    have HBY : Hid (Below w.heap.size w Y) := HBW.out.trans (hOnly.below (by omega) fun b hb => by rw [List.mem_singleton.1 hb]; omega)
    have hYs : W0.heap.size ≤ Y.heap.size := hOnly.size
    have hpl : ps.length = k := by have := congrArg List.length hps; rw [List.length_map, spSegs_len] at this; exact this
    have HPY := hide (HPW.out.only hOnly (by simp; omega))
    have mp : Y.cell? ⟨w.heap.size, 0, none⟩ = some (.slice a n c) := HPY.out.cell 0 (by simp)
    have HPL := hide hpl
    clear hBM hRow hps hOnly hpl
    by_cases hlt : k < n
    · have hki : (k : Int) < (n : Int) := by omega
      have hkm : k < ms.length := by rw [HN.out]; exact hlt
      obtain ⟨⟨sg, ag, cg⟩, hsg⟩ : ∃ q, ms[k] = q := ⟨_, rfl⟩
      have hmem : (sg, ag, cg) ∈ ms := by rw [← hsg]; exact List.getElem_mem hkm
      obtain ⟨hfn, hfnm⟩ := HFL.out _ hmem
      dsimp only at hfn hfnm
      have hmk : mm.getD k ⟨⟨#[]⟩, []⟩ = sg := by
        rw [← HMM.out, List.getD_eq_getElem?_getD, List.getElem?_map, List.getElem?_eq_getElem hkm, hsg]; rfl
      obtain ⟨bsg, hOg, hbg⟩ := HRM.out.el _ hmem
      obtain ⟨h0A, hAt⟩ := FB.at (C := sgC) (c := 2) (Z := fun _ => True) (fun _ => rfl) HRM.out.row (by rw [HN.out]; omega) (fun _ _ => trivial)
      obtain ⟨bm, om, cam, ea, hbm, hcells⟩ : ∃ b off cap, Value.slice a n c = .slice (some ⟨b, off, none⟩) ms.length cap ∧ b < w.heap.size ∧ ∀ i (h : i < ms.length), FR sgC (fun _ => True) 0 w b (off + i * 2) ms[i] := by
        rcases hAt with ⟨a', c', e', e2⟩ | ⟨b, off, cap, e, hb, hc⟩
        · rw [e2] at hkm; simp at hkm
        · exact ⟨b, off, cap, e, hb.2, hc⟩
      injection ea with ea1 ea2 ea3
      subst ea1
      subst ea3
      have hck := (hcells k hkm).1
      rw [hsg] at hck
      have d0 : Y.cell? ⟨bm, om + k * 2, none⟩ = some (.string sg.name) := by rw [HBY.out.cell (p := ⟨bm, om + k * 2, none⟩) hbm]; simpa [sgC] using hck 0 (by simp [sgC])
      have d1w : w.cell? ⟨bm, om + k * 2 + 1, none⟩ = some (.slice ag sg.fields.length cg) := by simpa [sgC] using hck 1 (by simp [sgC])
      have HD1 := hide d1w
      have HOG := hide hOg
      have HBG := hide hbg
      have hspt : spSegs A AT X mm (k + 1) = spSegs A AT X mm k ++ [if k = AT then spSeg A X sg else sg] := by show spSegs A AT X mm k ++ [_] = _; rw [hmk]
      have HSPT := hide hspt
      clear hsg hmem hmk hOg hbg h0A hAt hcells hck d1w hspt ea2 hkm
      have HPR : Hid (∀ b, Y.heap.size < b → (b ≠ M ∧ (b ≠ w.heap.size + 1 ∧ ¬ b < L) ∧ (Value.slice am k cm).ownBlock ≠ some b)) := fun b hb => ⟨by omega, by omega, fun e => by have := (HRW.out.row.own b (by rw [e]; simp)).2; omega⟩
      have HPS2 : Hid (∀ b, b < W0.heap.size → b ≠ M → (b ≠ w.heap.size + 1 ∧ ¬ b < L) → (b ≠ M ∧ (b ≠ w.heap.size + 1 ∧ ¬ b < L) ∧ (Value.slice am k cm).ownBlock ≠ some b)) := fun b hb hne hne2 => ⟨hne, hne2, fun e => by have := (HRW.out.row.own b (by rw [e]; simp)).1; omega⟩
      obtain ⟨P, hPd⟩ : ∃ P : Nat → Prop, (fun b => b ≠ M ∧ (b ≠ w.heap.size + 1 ∧ ¬ b < L) ∧ (Value.slice am k cm).ownBlock ≠ some b) = P := ⟨_, rfl⟩
      have HPD : Hid (∀ b, P b → b ≠ M ∧ (b ≠ w.heap.size + 1 ∧ ¬ b < L) ∧ (Value.slice am k cm).ownBlock ≠ some b) := fun b hb => by rw [← hPd] at hb; exact hb
      have HP1 : Hid (∀ b, Y.heap.size < b → P b) := fun b hb => by rw [← hPd]; exact HPR.out b hb
      have HP2' : Hid (∀ b, b < W0.heap.size → b ≠ M → (b ≠ w.heap.size + 1 ∧ ¬ b < L) → P b) := fun b hb hne hne2 => by rw [← hPd]; exact HPS2.out b hb hne hne2
      clear hPd HPR HPS2
      obtain ⟨Z0, hZ0⟩ : ∃ x, Y.alloc (Obj.cells #[.string sg.name, .slice none 0 0] 44) = x := ⟨_, rfl⟩
      have hbZ0 : Below Y.heap.size Y Z0 := by rw [← hZ0]; exact (Below.refl _ _).alloc (Nat.le_refl _) _
      have HSB0 : Hid (SgB Y Z0 Y.heap.size P ⟨sg.name, sg.fields.take 0⟩) := ⟨[], none, 0, by rw [← hZ0]; exact Box.new _ _ _, ARow.nil _ _ _ _ _, rfl, hbZ0⟩
      have HZ0 := hide hZ0
      clear hZ0 hbZ0
      go_wp2_with fail
      rw [HZ0.out]
      go_loopg [14] sg.fields.length (fun q j wr => ∃ kf : Nat, kf ≤ sg.fields.length ∧ q = sg.fields.length - kf ∧ j = .int .i64 (kf : Int) ∧ SgB Y wr Y.heap.size P ⟨sg.name, sg.fields.take kf⟩)
      case atStart => exact ⟨0, Nat.zero_le _, rfl, rfl, HSB0.out⟩
      case round =>
        obtain ⟨kf, hkf, rfl, rfl, hSB⟩ := hrel
        obtain ⟨Z, rfl⟩ : ∃ x, x = wr := ⟨_, rfl⟩
        obtain ⟨pf, af, cf, hbox, hAr, hpf, hbZ⟩ := hSB
        have htk : (sg.fields.take kf).length = kf := by rw [List.length_take]; omega
        have HTKF := hide htk
        have HBX := hide hbox
        have HAR := hide hAr
        have HPF := hide hpf
        have HBZ := hide hbZ
        dsimp only at HBX HAR HPF
        rw [htk] at HBX
        have HWZ := hide (bjoin hbZ HBY.out)
        have HPZ := hide (HPY.out.below hbZ)
        clear hbox hAr hpf hbZ htk mp d0
        have mp : Z.cell? ⟨w.heap.size, 0, none⟩ = some (.slice (some ⟨bm, om, none⟩) n c) := HPZ.out.cell 0 (by simp)
        have d1 : Z.cell? ⟨bm, om + k * 2 + 1, none⟩ = some (.slice ag sg.fields.length cg) := (HWZ.out.cell (p := ⟨bm, om + k * 2 + 1, none⟩) hbm).trans HD1.out
        by_cases hlt2 : kf < sg.fields.length
        · have hkfi : (kf : Int) < (sg.fields.length : Int) := by omega
          obtain ⟨ag', cg', eag, hform⟩ := OAt.form HOG.out
          injection eag with e1 _ e3
          subst e1 e3
          obtain ⟨bf, of, csf, rfl, hbf, _, ⟨vf, hvf, hOf⟩, hcsf⟩ := hform kf hlt2
          obtain ⟨fe, hfe⟩ : ∃ f, sg.fields[kf] = f := ⟨_, rfl⟩
          rw [hfe] at hOf
          obtain ⟨ae, ce, rfl, _⟩ := OAt.form hOf
          have hvf' : w.cell? ⟨bf, of + kf, none⟩ = some (.slice ae fe.length ce) := by simpa using hvf
          have HTN : Hid (sg.fields.take (kf + 1) = sg.fields.take kf ++ [fe]) := by show _ = _; rw [List.take_succ_eq_append_getElem hlt2, hfe]
          obtain ⟨D, hDe⟩ : ∃ D, Z.drew = D := ⟨_, rfl⟩
          have hD : Below Z.heap.size Z D := by rw [← hDe]; exact (Below.refl _ _).drew
          have hWD := bjoin hD HWZ.out
          have hOD : OReps D (.slice ae fe.length ce) fe csf := OAt.kept keptO_rep hOf hWD.size fun d hd => hWD.block d (OAt.lt ltO_rep hOf d hd)
          have hltc : ∀ d ∈ csf, d < w.heap.size := fun d hd => OAt.lt ltO_rep hOf d hd
          have hwy : w.heap.size ≤ Y.heap.size := HBY.out.size
          obtain ⟨v8, V8, a8, c8, e8, hr8, ⟨q1, q2, q3, q4⟩, hS8⟩ := SgB.more (Y := Y) (P := P) HP1.out (Nat.le_refl _) (by rw [HTKF.out]; exact HBX.out) HAR.out HPF.out HBZ.out hD fe ae ce hOD (fun b hb => by
            have h1 := hltc b hb
            have h2 := HWZ.out.size
            have h7 : ¬ b < L := fun hlt7 => (HBG.out b (hcsf b hb)).2.1 (HL.out b hlt7)
            refine ⟨HP2'.out b (by omega) (by omega) (by omega), by omega, .inr ⟨by omega, fun e => ?_⟩⟩
            have := (HAR.out.row.own b (by rw [e]; simp)).1
            omega) (by rw [HTKF.out]; omega)
          rw [HTKF.out] at e8 hr8 q1 q3 hS8
          subst e8
          have hSd : (fun U : World => U.cell? ⟨Y.heap.size, 1, none⟩ = some (.slice af kf cf) ∧ U.cell? ⟨w.heap.size, 0, none⟩ = some (.slice (some ⟨bm, om, none⟩) n c) ∧ U.cell? ⟨bm, om + k * 2 + 1, none⟩ = some (.slice (some ⟨bf, of, none⟩) sg.fields.length cg) ∧ U.cell? ⟨bf, of + kf, none⟩ = some (.slice ae fe.length ce)) D := ⟨q1, (HPZ.out.below hD).cell 0 (by simp), (hWD.cell (p := ⟨bm, om + k * 2 + 1, none⟩) hbm).trans HD1.out, (hWD.cell (p := ⟨bf, of + kf, none⟩) hbf).trans hvf'⟩
          have hSa : (fun U : World => U.cell? ⟨Y.heap.size, 1, none⟩ = some (.slice af kf cf) ∧ U.cell? ⟨w.heap.size, 0, none⟩ = some (.slice (some ⟨bm, om, none⟩) n c) ∧ U.cell? ⟨bm, om + k * 2 + 1, none⟩ = some (.slice (some ⟨bf, of, none⟩) sg.fields.length cg) ∧ U.cell? ⟨bf, of + kf, none⟩ = some (.slice ae fe.length ce)) (D.alloc (.cells #[.slice ae fe.length ce] 47)) := by
            have hb := Below.al3 hWD (o := .cells #[.slice ae fe.length ce] 47)
            exact ⟨((HBX.out.below hD).alloc _).cell 1 (by simp), ((HPZ.out.below hD).alloc _).cell 0 (by simp), (hb.cell (p := ⟨bm, om + k * 2 + 1, none⟩) hbm).trans HD1.out, (hb.cell (p := ⟨bf, of + kf, none⟩) hbf).trans hvf'⟩
          have hWV8 : Below w.heap.size w V8 := by
            obtain ⟨_, _, _, _, _, _, hb8⟩ := hS8
            have h3 := bjoin' hb8 HBY.out
            exact Below.unset h3 (by omega)
          have hS6 : (fun U : World => U.cell? ⟨Y.heap.size, 1, none⟩ = some (.slice af kf cf) ∧ U.cell? ⟨w.heap.size, 0, none⟩ = some (.slice (some ⟨bm, om, none⟩) n c) ∧ U.cell? ⟨bm, om + k * 2 + 1, none⟩ = some (.slice (some ⟨bf, of, none⟩) sg.fields.length cg) ∧ U.cell? ⟨bf, of + kf, none⟩ = some (.slice ae fe.length ce)) V8 := ⟨q3, by
            obtain ⟨_, _, _, _, _, _, hb8⟩ := hS8
            have h4 : (V8.setCell ⟨Y.heap.size, 1, none⟩ (.slice a8 (kf + 1) c8)).heap[w.heap.size]? = Y.heap[w.heap.size]? := hb8.block _ (by omega)
            rw [Deep.blk_setCell_other _ ⟨Y.heap.size, 1, none⟩ _ w.heap.size (by dsimp only; omega)] at h4
            exact (HPY.out.keep h4).cell 0 (by simp), (hWV8.cell (p := ⟨bm, om + k * 2 + 1, none⟩) hbm).trans HD1.out, (hWV8.cell (p := ⟨bf, of + kf, none⟩) hbf).trans hvf'⟩
          have HREL : Hid (SgB Y (V8.setCell ⟨Y.heap.size, 1, none⟩ (.slice a8 (kf + 1) c8)) Y.heap.size P ⟨sg.name, sg.fields.take (kf + 1)⟩) := by rw [HTN.out]; exact hS8
          have hki0 : (0 : Int) ≤ (k : Int) := by omega
          have hDe' := hDe
          clear hS8 hOD hltc hvf hvf' hOf hcsf hform hfe
          go_upto_region 14 with fail
          refine wp_region_two (fun U : World => U.cell? ⟨Y.heap.size, 1, none⟩ = some (.slice af kf cf) ∧ U.cell? ⟨w.heap.size, 0, none⟩ = some (.slice (some ⟨bm, om, none⟩) n c) ∧ U.cell? ⟨bm, om + k * 2 + 1, none⟩ = some (.slice (some ⟨bf, of, none⟩) sg.fields.length cg) ∧ U.cell? ⟨bf, of + kf, none⟩ = some (.slice ae fe.length ce)) 13 (by kernel_rfl) ?_
          rw [hDe]
          clear hDe hDe'
          refine wpTwo_take (i := 0) (some 69) (v := ?v0_14) rfl rfl (by kernel_rfl) (by kernel_rfl) (by kernel_rfl) (by kernel_rfl) (fun _ _ _ h => h) hSd (Or.inl ⟨by rfl, ?hy0_14⟩) ?rest0_14
          case hy0_14 => (intro w hSw; (try dsimp only at hSw); go_simp; try with_reducible rfl)
          try simp only [Act.put, List.setIfInBounds_toArray, List.set_cons_zero, List.set_cons_succ]
          refine wpTwo_take (i := 1) (some 70) (v := ?v1_14) rfl rfl (by kernel_rfl) (by kernel_rfl) (by kernel_rfl) (by kernel_rfl) (fun _ _ _ h => h) hSd (Or.inl ⟨by rfl, ?hy1_14⟩) ?rest1_14
          case hy1_14 => (intro w hSw; (try dsimp only at hSw); go_simp; try with_reducible rfl)
          try simp only [Act.put, List.setIfInBounds_toArray, List.set_cons_zero, List.set_cons_succ]
          refine wpTwo_take (i := 2) (some 71) (v := ?v2_14) rfl rfl (by kernel_rfl) (by kernel_rfl) (by kernel_rfl) (by kernel_rfl) (fun _ _ _ h => h) hSd (Or.inl ⟨by rfl, ?hy2_14⟩) ?rest2_14
          case hy2_14 => (intro w hSw; (try dsimp only at hSw); go_simp; try with_reducible rfl)
          try simp only [Act.put, List.setIfInBounds_toArray, List.set_cons_zero, List.set_cons_succ]
          refine wpTwo_take (i := 3) (some 72) (v := ?v3_14) rfl rfl (by kernel_rfl) (by kernel_rfl) (by kernel_rfl) (by kernel_rfl) (fun _ _ _ h => h) hSd (Or.inl ⟨by rfl, ?hy3_14⟩) ?rest3_14
          case hy3_14 => (intro w hSw; (try dsimp only at hSw); go_simp; try with_reducible rfl)
          try simp only [Act.put, List.setIfInBounds_toArray, List.set_cons_zero, List.set_cons_succ]
          refine wpTwo_take (i := 4) (some 73) (v := ?v4_14) rfl rfl (by kernel_rfl) (by kernel_rfl) (by kernel_rfl) (by kernel_rfl) (fun _ _ _ h => h) hSd (Or.inl ⟨by rfl, ?hy4_14⟩) ?rest4_14
          case hy4_14 => (intro w hSw; (try dsimp only at hSw); go_simp; try with_reducible rfl)
          try simp only [Act.put, List.setIfInBounds_toArray, List.set_cons_zero, List.set_cons_succ]
          refine wpTwo_take (i := 5) (some 74) (v := ?v5_14) rfl rfl (by kernel_rfl) (by kernel_rfl) (by kernel_rfl) (by kernel_rfl) (fun _ _ _ h => h) hSd (Or.inl ⟨by rfl, ?hy5_14⟩) ?rest5_14
          case hy5_14 => (intro w hSw; (try dsimp only at hSw); go_simp; try with_reducible rfl)
          try simp only [Act.put, List.setIfInBounds_toArray, List.set_cons_zero, List.set_cons_succ]
          refine wpTwo_take (i := 6) (some 75) (v := ?v6_14) rfl rfl (by kernel_rfl) (by kernel_rfl) (by kernel_rfl) (by kernel_rfl) (fun _ _ _ h => h) hSd (Or.inl ⟨by rfl, ?hy6_14⟩) ?rest6_14
          case hy6_14 => (intro w hSw; (try dsimp only at hSw); go_simp; try with_reducible rfl)
          try simp only [Act.put, List.setIfInBounds_toArray, List.set_cons_zero, List.set_cons_succ]
          refine wpTwo_take (i := 7) (some 76) (v := ?v7_14) rfl rfl (by kernel_rfl) (by kernel_rfl) (by kernel_rfl) (by kernel_rfl) (fun _ _ _ h => h) hSd (Or.inl ⟨by rfl, ?hy7_14⟩) ?rest7_14
          case hy7_14 => (intro w hSw; (try dsimp only at hSw); go_simp; try with_reducible rfl)
          try simp only [Act.put, List.setIfInBounds_toArray, List.set_cons_zero, List.set_cons_succ]
          refine wpTwo_take (i := 8) (some 77) (v := ?v8_14) rfl rfl (by kernel_rfl) (by kernel_rfl) (by kernel_rfl) (by kernel_rfl) (fun _ _ _ h => h) hSd (Or.inl ⟨by rfl, ?hy8_14⟩) ?rest8_14
          case hy8_14 => (intro w hSw; (try dsimp only at hSw); go_simp; try with_reducible rfl)
          try simp only [Act.put, List.setIfInBounds_toArray, List.set_cons_zero, List.set_cons_succ]
          refine wpTwo_take (i := 9) (some 78) (v := ?v9_14) rfl rfl (by kernel_rfl) (by kernel_rfl) (by kernel_rfl) (by kernel_rfl) (fun _ _ _ h => h) hSd (Or.inl ⟨by rfl, ?hy9_14⟩) ?rest9_14
          case hy9_14 => (intro w hSw; (try dsimp only at hSw); go_simp; try with_reducible rfl)
          try simp only [Act.put, List.setIfInBounds_toArray, List.set_cons_zero, List.set_cons_succ]
          refine wpTwo_take (i := 10) (some 79) (v := ?v10_14) rfl rfl (by kernel_rfl) (by kernel_rfl) (by kernel_rfl) (by kernel_rfl) (fun _ _ _ h => h) hSd (Or.inl ⟨by rfl, ?hy10_14⟩) ?rest10_14
          case hy10_14 => (intro w hSw; (try dsimp only at hSw); go_simp; try with_reducible rfl)
          try simp only [Act.put, List.setIfInBounds_toArray, List.set_cons_zero, List.set_cons_succ]
          refine wpTwo_one (j := 11) (by kernel_rfl) rfl (fun K hK => ?_)
          go_simp
          refine hK.out _ _ (fun _ => hSa) ?_
          clear hK K
          try simp only [Act.put, List.setIfInBounds_toArray, List.set_cons_zero, List.set_cons_succ]
          refine wpTwo_one (j := 12) (by kernel_rfl) rfl (fun K hK => ?_)
          refine step_app rfl _ _ 42 rfl hr8 (by first | rfl | simp [Act.eval, Act.put]) (by first | rfl | simp [Act.eval, Act.put]) ?_
          show K (Act.put _ (some 81) _) _
          refine hK.out _ _ (fun _ => hS6) ?_
          clear hK K
          try simp only [Act.put, List.setIfInBounds_toArray, List.set_cons_zero, List.set_cons_succ]
          refine wpTwo_one (j := 13) (by kernel_rfl) rfl (fun K hK => ?_)
          go_simp
          refine hK.out _ _ (fun h => absurd h (by decide)) ?_
          clear hK K
          refine wpTwo_one (j := 14) (by kernel_rfl) rfl (fun K hK => ?_)
          go_simp
          refine hK.out _ _ (fun h => absurd h (by decide)) ?_
          clear hK K
          refine wpTwo_done (by kernel_rfl) ?_ _
          clear hSd hSa hS6 q1 q2 q3 q4 hr8 hWV8 hWD hD
          go_wp2_with fail
          go_roundg (sg.fields.length - (kf + 1))
          case measure => omega
          case rel => exact ⟨kf + 1, by omega, rfl, by go_num, HREL.out⟩
        · have hkfi : ¬ (kf : Int) < (sg.fields.length : Int) := by omega
          obtain rfl : kf = sg.fields.length := by omega
          have HSZ : Hid (SgB Y Z Y.heap.size P sg) := ⟨pf, af, cf, HBX.out, by have := HAR.out; rw [HTKF.out] at this; exact this, by rw [HPF.out]; exact List.take_length, HBZ.out⟩
          have HARL : Hid (ARow OReps 47 (Y.heap.size + 1) (fun b => b = Y.heap.size ∨ ¬ P b) Z (.slice af sg.fields.length cf) pf) := by have := HAR.out; rw [HTKF.out] at this; exact this
          have HPFL : Hid (pf.map Prod.fst = sg.fields) := by rw [HPF.out]; exact List.take_length
          have hwy : w.heap.size ≤ Y.heap.size := HBY.out.size
          have hyz : Y.heap.size < Z.heap.size := HBX.out.lt
          obtain ⟨sg2, hsg2⟩ : ∃ s, (if k = AT then spSeg A X sg else sg) = s := ⟨_, rfl⟩
          rw [hsg2] at HSPT
          have HSG2 := hide hsg2
          clear hsg2
          refine sb_two HBX.out ?_
          rintro ⟨⟨s0, s1⟩, f0, f1⟩
          go_upto_if 85 with fail
          go_cut [85] (fun v85 wx => SgB Y wx Y.heap.size P sg2)
          case first =>
            by_cases hkA : (k : Int) = (AT : Int)
            · have hkAb : ((k : Int) == (AT : Int)) = true := by simpa using hkA
              have HIF : Hid (spSeg A X sg = sg2) := by have := HSG2.out; rw [if_pos (by omega)] at this; exact this
              have hAll : A = 0 ∨ A = 1 ∨ A = 2 ∨ A = 3 ∨ A = 4 ∨ A = 5 ∨ A = 6 ∨ A = 7 ∨ A = 8 ∨ 9 ≤ A := by omega
              have hAT : AT = k := by omega
              subst hAT
              clear HSG2 hkA HSPT HR9 d1 mp
              rcases hAll with rfl | rfl | rfl | rfl | rfl | rfl | rfl | rfl | rfl | hA9
              · have HX : Hid (spSeg 0 X sg = ⟨⟨#[109, 115, 104]⟩, sg.fields⟩) := rfl
                go_wp2_with fail
                go_meet
                case rel =>
                  rw [← HIF.out, HX.out]
                  exact ⟨pf, af, cf, by have := HBX.out.set 0 (.string ⟨#[109, 115, 104]⟩); simpa using this, HARL.out.set keepO_reps (b := Y.heap.size) (o := 0) (.inl rfl) _, HPFL.out, HBZ.out.setCell (p := ⟨Y.heap.size, 0, none⟩) (Nat.le_refl _) _⟩
              · have HX : Hid (spSeg 1 X sg = ⟨⟨#[77, 83, 72]⟩, sg.fields⟩) := rfl
                go_wp2_with fail
                go_meet
                case rel =>
                  rw [← HIF.out, HX.out]
                  exact ⟨pf, af, cf, by have := HBX.out.set 0 (.string ⟨#[77, 83, 72]⟩); simpa using this, HARL.out.set keepO_reps (b := Y.heap.size) (o := 0) (.inl rfl) _, HPFL.out, HBZ.out.setCell (p := ⟨Y.heap.size, 0, none⟩) (Nat.le_refl _) _⟩
              · obtain ⟨v8, V8, a8, c8, e8, hr8, ⟨q1, q2, q3, q4⟩, hS8⟩ := SgB.more (Y := Y) (P := P) HP1.out (Nat.le_refl _) HBX.out HARL.out HPFL.out HBZ.out (V := Z) (Below.refl _ _) ([] : Field) none 0 (o_nil Z none 0) (by simp) (by omega)
                subst e8
                have HS8 := hide hS8
                clear hS8
                simp only [List.length_nil] at hr8
                go_wp2_with (first | (at_builtin; refine wpList_app rfl _ _ 42 rfl hr8 (by first | rfl | simp [Act.eval, Act.put]) (by first | rfl | simp [Act.eval, Act.put]) ?_))
                go_meet
                case rel =>
                  rw [← HIF.out]
                  exact HS8.out
              · obtain ⟨V, hVe⟩ : ∃ x, (Z.alloc (Obj.cells #[.string ⟨#[118]⟩, .string ⟨#[]⟩] 9)).alloc (Obj.cells #[.slice (some ⟨Z.heap.size, 0, none⟩) 2 2] 50) = x := ⟨_, rfl⟩
                have sV : V.heap.size = Z.heap.size + 1 + 1 := by rw [← hVe]; simp
                have bV : Below Z.heap.size Z V := by rw [← hVe]; exact Below.al3 (Below.al3 (Below.refl _ _))
                have o1 : Box V Z.heap.size 9 #[.string ⟨#[118]⟩, .string ⟨#[]⟩] := by rw [← hVe]; exact (Box.new _ _ _).alloc _
                have o2 : Box V (Z.heap.size + 1) 50 #[.slice (some ⟨Z.heap.size, 0, none⟩) 2 2] := by rw [← hVe]; exact boxS _ _ _ _
                obtain ⟨v8, V8, a8, c8, e8, hr8, ⟨q1, q2, q3, q4⟩, hS8⟩ := SgB.more (Y := Y) (P := P) HP1.out (Nat.le_refl _) HBX.out HARL.out HPFL.out HBZ.out (V := V) bV [[⟨#[118]⟩, ⟨#[]⟩]] (some ⟨Z.heap.size + 1, 0, none⟩) 1 (o_rep1 o2 (o_texts (xs := [⟨#[118]⟩, ⟨#[]⟩]) o1 (by simp) (by intro s hs; simp at hs; rcases hs with rfl | rfl <;> decide))) (fun b hb => by simp at hb; refine ⟨HP1.out b (by omega), by omega, .inl (by omega)⟩) (by omega)
                subst e8
                have HS8 := hide hS8
                clear hS8
                rw [sV] at hr8
                simp only [List.length_cons, List.length_nil] at hr8
                clear o1 o2 bV
                go_wp2_with (first | (at_builtin; refine wpList_app rfl _ _ 42 rfl hr8 (by first | rfl | simp [Act.eval, Act.put]) (by first | rfl | simp [Act.eval, Act.put]) ?_))
                go_meet
                case rel =>
                  rw [← HIF.out]
                  exact HS8.out
              · have x1 : IntKind.i64.wrap (96 * (X : Int)) = 96 * (X : Int) := by rw [IntKind.wrap_i64]; omega
                have x2' : IntKind.i64.wrap (31 + 96 * (X : Int)) = 31 + 96 * (X : Int) := by rw [IntKind.wrap_i64]; omega
                have HBY' := hide (fun W => Frame.byte_any (31 + 96 * (X : Int)) W (by omega) (by omega))
                have e31 : (31 + 96 * (X : Int)).toNat = 31 + 96 * X := by omega
                rw [e31] at HBY'
                obtain ⟨ch, hch⟩ : ∃ x, UInt8.ofNat (31 + 96 * X) = x := ⟨_, rfl⟩
                rw [hch] at HBY'
                have HX : Hid (spSeg 4 X sg = ⟨sg.name, sg.fields ++ [[[⟨#[118]⟩ ++ ⟨#[ch]⟩]]]⟩) := by rw [← hch]; exact rfl
                clear hch
                have hSall : ∀ U, Below Z.heap.size Z U → (fun U : World => U.cell? ⟨Y.heap.size, 1, none⟩ = some (.slice af sg.fields.length cf)) U := fun U h => (HBX.out.below h).cell 1 (by simp)
                obtain ⟨D, hDe⟩ : ∃ D, Z.drew = D := ⟨_, rfl⟩
                have hD : Below Z.heap.size Z D := by rw [← hDe]; exact (Below.refl _ _).drew
                have hSd : (fun U : World => U.cell? ⟨Y.heap.size, 1, none⟩ = some (.slice af sg.fields.length cf)) D := hSall D hD
                have hDe' := hDe
                go_upto_region 25 with fail
                refine wp_region_two (fun U : World => U.cell? ⟨Y.heap.size, 1, none⟩ = some (.slice af sg.fields.length cf)) 13 (by kernel_rfl) ?_
                rw [hDe]
                clear hDe hDe'
                refine wpTwo_take (i := 0) (some 113) (v := ?v0_25) rfl rfl (by kernel_rfl) (by kernel_rfl) (by kernel_rfl) (by kernel_rfl) (fun _ _ _ h => h) hSd (Or.inl ⟨by rfl, ?hy0_25⟩) ?rest0_25
                case hy0_25 => (intro w hSw; (try dsimp only at hSw); go_simp; try with_reducible rfl)
                try simp only [Act.put, List.setIfInBounds_toArray, List.set_cons_zero, List.set_cons_succ]
                refine wpTwo_take (i := 1) (some 114) (v := ?v1_25) rfl rfl (by kernel_rfl) (by kernel_rfl) (by kernel_rfl) (by kernel_rfl) (fun _ _ _ h => h) hSd (Or.inl ⟨by rfl, ?hy1_25⟩) ?rest1_25
                case hy1_25 => (intro w hSw; (try dsimp only at hSw); go_simp; try with_reducible rfl)
                try simp only [Act.put, List.setIfInBounds_toArray, List.set_cons_zero, List.set_cons_succ]
                refine wpTwo_take (i := 2) (some 115) (v := ?v2_25) rfl rfl (by kernel_rfl) (by kernel_rfl) (by kernel_rfl) (by kernel_rfl) (fun _ _ _ h => h) hSd (Or.inl ⟨by rfl, ?hy2_25⟩) ?rest2_25
                case hy2_25 => (intro w hSw; (try dsimp only at hSw); go_simp; try with_reducible rfl)
                try simp only [Act.put, List.setIfInBounds_toArray, List.set_cons_zero, List.set_cons_succ]
                refine wpTwo_take (i := 3) (some 116) (v := ?v3_25) rfl rfl (by kernel_rfl) (by kernel_rfl) (by kernel_rfl) (by kernel_rfl) (fun _ _ _ h => h) hSd (Or.inl ⟨by rfl, ?hy3_25⟩) ?rest3_25
                case hy3_25 => (intro w hSw; (try dsimp only at hSw); go_simp; try with_reducible rfl)
                try simp only [Act.put, List.setIfInBounds_toArray, List.set_cons_zero, List.set_cons_succ]
                refine wpTwo_take (i := 4) (some 117) (v := ?v4_25) rfl rfl (by kernel_rfl) (by kernel_rfl) (by kernel_rfl) (by kernel_rfl) (fun _ _ _ h => h) hSd (Or.inl ⟨by rfl, ?hy4_25⟩) ?rest4_25
                case hy4_25 => (intro w hSw; (try dsimp only at hSw); go_simp; try with_reducible rfl)
                try simp only [Act.put, List.setIfInBounds_toArray, List.set_cons_zero, List.set_cons_succ]
                refine wpTwo_one (j := 5) (by kernel_rfl) rfl (fun K hK => ?_)
                go_simp
                refine (HBY'.out D).mono ?_
                rintro e Z1 ⟨rfl, hbZ1⟩
                dsimp only
                have hz1 : Below Z.heap.size Z Z1 := bjoin hbZ1 hD
                refine hK.out _ _ (fun _ => hSall _ hz1) ?_
                clear hK K
                try simp only [Act.put, List.setIfInBounds_toArray, List.set_cons_zero, List.set_cons_succ]
                refine wpTwo_one (j := 6) (by kernel_rfl) rfl (fun K hK => ?_)
                go_simp
                refine hK.out _ _ (fun _ => hSall _ hz1) ?_
                clear hK K
                try simp only [Act.put, List.setIfInBounds_toArray, List.set_cons_zero, List.set_cons_succ]
                obtain ⟨tx, htx⟩ : ∃ t, (⟨#[118]⟩ : ByteArray) ++ ⟨#[ch]⟩ = t := ⟨_, rfl⟩
                have htxs : tx.size = 2 := by rw [← htx]; rfl
                (try rw [htx])
                rw [htx] at HX
                clear htx
                refine wpTwo_one (j := 7) (by kernel_rfl) rfl (fun K hK => ?_)
                go_simp
                refine hK.out _ _ (fun _ => hSall _ (Below.al3 hz1)) ?_
                clear hK K
                try simp only [Act.put, List.setIfInBounds_toArray, List.set_cons_zero, List.set_cons_succ]
                refine wpTwo_one (j := 8) (by kernel_rfl) rfl (fun K hK => ?_)
                go_simp
                refine hK.out _ _ (fun _ => hSall _ (Below.al3 hz1)) ?_
                clear hK K
                try simp only [Act.put, List.setIfInBounds_toArray, List.set_cons_zero, List.set_cons_succ]
                refine wpTwo_one (j := 9) (by kernel_rfl) rfl (fun K hK => ?_)
                go_simp
                refine hK.out _ _ (fun _ => hSall _ (Below.al3 (Below.al3 hz1))) ?_
                clear hK K
                try simp only [Act.put, List.setIfInBounds_toArray, List.set_cons_zero, List.set_cons_succ]
                refine wpTwo_one (j := 10) (by kernel_rfl) rfl (fun K hK => ?_)
                go_simp
                refine hK.out _ _ (fun _ => hSall _ (Below.al3 (Below.al3 hz1))) ?_
                clear hK K
                try simp only [Act.put, List.setIfInBounds_toArray, List.set_cons_zero, List.set_cons_succ]
                refine wpTwo_one (j := 11) (by kernel_rfl) rfl (fun K hK => ?_)
                go_simp
                refine hK.out _ _ (fun _ => hSall _ (Below.al3 (Below.al3 (Below.al3 hz1)))) ?_
                clear hK K
                try simp only [Act.put, List.setIfInBounds_toArray, List.set_cons_zero, List.set_cons_succ]
                obtain ⟨V, hVe⟩ : ∃ x, (Z1.alloc (Obj.cells #[.string tx] 9)).alloc (Obj.cells #[.slice (some ⟨Z1.heap.size, 0, none⟩) 1 1] 50) = x := ⟨_, rfl⟩
                have sV : V.heap.size = Z1.heap.size + 1 + 1 := by rw [← hVe]; simp
                have bV : Below Z.heap.size Z V := by rw [← hVe]; exact Below.al3 (Below.al3 hz1)
                have o1 : Box V Z1.heap.size 9 #[.string tx] := by rw [← hVe]; exact (Box.new _ _ _).alloc _
                have o2 : Box V (Z1.heap.size + 1) 50 #[.slice (some ⟨Z1.heap.size, 0, none⟩) 1 1] := by rw [← hVe]; exact boxS _ _ _ _
                have hzz := hz1.size
                obtain ⟨v8, V8, a8, c8, e8, hr8, ⟨q1, q2, q3, q4⟩, hS8⟩ := SgB.more (Y := Y) (P := P) HP1.out (Nat.le_refl _) HBX.out HARL.out HPFL.out HBZ.out (V := V) bV [[tx]] (some ⟨Z1.heap.size + 1, 0, none⟩) 1 (o_rep1 o2 (o_texts (xs := [tx]) o1 (by simp) (by intro s hs; simp at hs; subst hs; omega))) (fun b hb => by simp at hb; refine ⟨HP1.out b (by omega), by omega, .inl (by omega)⟩) (by omega)
                subst e8
                have HS8 := hide hS8
                clear hS8
                rw [sV] at hr8
                simp only [List.length_cons, List.length_nil] at hr8
                rw [← hVe] at hr8
                have hwV8 : (fun U : World => U.cell? ⟨Y.heap.size, 1, none⟩ = some (.slice af sg.fields.length cf)) V8 := q3
                refine wpTwo_one (j := 12) (by kernel_rfl) rfl (fun K hK => ?_)
                refine step_app rfl _ _ 42 rfl hr8 (by first | rfl | simp [Act.eval, Act.put]) (by first | rfl | simp [Act.eval, Act.put]) ?_
                show K (Act.put _ (some 125) _) _
                refine hK.out _ _ (fun _ => hwV8) ?_
                clear hK K
                try simp only [Act.put, List.setIfInBounds_toArray, List.set_cons_zero, List.set_cons_succ]
                refine wpTwo_one (j := 13) (by kernel_rfl) rfl (fun K hK => ?_)
                go_simp
                refine hK.out _ _ (fun h => absurd h (by decide)) ?_
                clear hK K
                try simp only [Act.put, List.setIfInBounds_toArray, List.set_cons_zero, List.set_cons_succ]
                refine wpTwo_one (j := 14) (by kernel_rfl) rfl (fun K hK => ?_)
                go_simp
                refine hK.out _ _ (fun h => absurd h (by decide)) ?_
                clear hK K
                try simp only [Act.put, List.setIfInBounds_toArray, List.set_cons_zero, List.set_cons_succ]
                refine wpTwo_done (by kernel_rfl) ?_ _
                clear hSd hSall hwV8 q1 q2 q3 q4 hr8 hD hz1 hbZ1 o1 o2 bV hVe
                go_wp2_with fail
                go_meet
                case rel =>
                  rw [← HIF.out, HX.out]
                  exact HS8.out
              · have H1Y : Hid (∀ U, Below Y.heap.size Y U → Box U (M + 1) 9 #[.string ⟨#[118]⟩]) := fun U h => (H1W.out.only HON.out (by simp)).below h
                have H2Y : Hid (∀ U, Below Y.heap.size Y U → Box U (M + 1 + 1) 50 #[.slice (some ⟨M + 1, 0, none⟩) 1 1]) := fun U h => (H2W.out.only HON.out (by simp; omega)).below h
                have H3Y : Hid (∀ U, Below Y.heap.size Y U → Box U (M + 1 + 1 + 1) 47 #[.slice (some ⟨M + 1 + 1, 0, none⟩) 1 1]) := fun U h => (H3W.out.only HON.out (by simp; omega)).below h
                obtain ⟨T, hT⟩ : ∃ T, 30 + X - sg.fields.length = T := ⟨_, rfl⟩
                have HX : Hid (spSeg 5 X sg = ⟨sg.name, sg.fields ++ List.replicate T fOne⟩) := by rw [← hT]; exact rfl
                have hTe : sg.fields.length + T = 30 + X := by omega
                have HSZ0 : Hid (SgB Y Z Y.heap.size P ⟨sg.name, sg.fields ++ List.replicate 0 fOne⟩) := by have := HSZ.out; rw [List.replicate_zero, List.append_nil]; exact this
                clear hT
                go_wp2_with fail
                go_loopg [131] T (fun q _ wr => ∃ t : Nat, t ≤ T ∧ q = T - t ∧ SgB Y wr Y.heap.size P ⟨sg.name, sg.fields ++ List.replicate t fOne⟩)
                case atStart => exact ⟨0, Nat.zero_le _, rfl, HSZ0.out⟩
                case round =>
                  obtain ⟨t, ht, rfl, hS⟩ := hrel
                  obtain ⟨U, rfl⟩ : ∃ x, x = wr := ⟨_, rfl⟩
                  have HSU := hide hS
                  obtain ⟨pg, ax, cx, hbx, hax, hpx, hbU⟩ := hS
                  have hlen : (sg.fields ++ List.replicate t fOne).length = sg.fields.length + t := by rw [List.length_append, List.length_replicate]
                  dsimp only at hbx hax hpx
                  have g1 : U.cell? ⟨Y.heap.size, 1, none⟩ = some (.slice ax (sg.fields.length + t) cx) := by rw [← hlen]; exact hbx.cell 1 (by simp)
                  have g2 : U.cell? ⟨M + 1 + 1 + 1, 0, none⟩ = some (.slice (some ⟨M + 1 + 1, 0, none⟩) 1 1) := (H3Y.out U hbU).cell 0 (by simp)
                  clear s0 s1 f0 f1
                  by_cases htT : t < T
                  · have hti : (sg.fields.length : Int) + (t : Int) < 30 + (X : Int) := by omega
                    obtain ⟨v8, V8, a8, c8, e8, hr8, ⟨q1, q2, q3, q4⟩, hS8⟩ := SgB.more (Y := Y) (P := P) HP1.out (Nat.le_refl _) hbx hax hpx hbU (V := U) (Below.refl _ _) fOne (some ⟨M + 1 + 1, 0, none⟩) 1 (o_fone (H1Y.out U hbU) (H2Y.out U hbU) (by decide)) (fun b hb => by
                      simp at hb
                      have h2 := hbU.size
                      refine ⟨HP2'.out b (by omega) (by omega) (by omega), by omega, .inr ⟨by omega, fun e => ?_⟩⟩
                      have := (hax.row.own b (by rw [e]; simp)).1
                      omega) (by omega)
                    rw [hlen] at e8 hr8 q1 q3 hS8
                    subst e8
                    have hf1 : fOne.length = 1 := rfl
                    rw [hf1] at hr8
                    have HS8 : Hid (SgB Y (V8.setCell ⟨Y.heap.size, 1, none⟩ (.slice a8 (sg.fields.length + t + 1) c8)) Y.heap.size P ⟨sg.name, sg.fields ++ List.replicate (t + 1) fOne⟩) := by
                      rw [List.replicate_succ', ← List.append_assoc]; exact hS8
                    clear hS8 hbx hax hpx hbU hlen hf1
                    go_wp2_with (first | (at_builtin; refine wpList_app rfl _ _ 42 rfl hr8 (by first | rfl | simp [Act.eval, Act.put]) (by first | rfl | simp [Act.eval, Act.put]) ?_))
                    go_roundg (T - (t + 1))
                    case measure => omega
                    case rel => exact ⟨t + 1, by omega, rfl, HS8.out⟩
                  · have hti : ¬ (sg.fields.length : Int) + (t : Int) < 30 + (X : Int) := by omega
                    obtain rfl : t = T := by omega
                    clear hbx hax hpx hbU hlen
                    go_wp2_with fail
                    go_meet
                    case rel => rw [← HIF.out, HX.out]; exact HSU.out
              · have HX : Hid (spSeg 6 X sg = ⟨sg.name, sg.fields ++ [List.replicate (30 + X) [⟨#[114]⟩]]⟩) := rfl
                obtain ⟨T, hT⟩ : ∃ T, 30 + X = T := ⟨_, rfl⟩
                rw [hT] at HX
                have hTi : 30 + (X : Int) = (T : Int) := by omega
                have hT40 : T ≤ 40 := by omega
                obtain ⟨U0, hU0⟩ : ∃ x, Z.alloc (Obj.cells #[.slice none 0 0] 47) = x := ⟨_, rfl⟩
                have bU0 : Below Z.heap.size Z U0 := by rw [← hU0]; exact Below.al3 (Below.refl _ _)
                have HF0 : Hid (Box U0 Z.heap.size 47 #[.slice none 0 0]) := by rw [← hU0]; exact Box.new _ _ _
                have HU0 := hide hU0
                have HBU0 := hide bU0
                clear hT hU0 bU0
                go_wp2_with fail
                rw [HU0.out]
                go_loopg [146] T (fun q _ wr => ∃ (t : Nat) (p3 : List (AE ByteArray)) (a3 : Option Addr) (c3 : Nat), t ≤ T ∧ q = T - t ∧ Box wr Z.heap.size 47 #[.slice a3 t c3] ∧ ARow OStrs 50 (Z.heap.size + 1) (fun b => b < Z.heap.size + 1) wr (.slice a3 t c3) p3 ∧ p3.map Prod.fst = List.replicate t [⟨#[114]⟩] ∧ Below Z.heap.size Z wr)
                case atStart => exact ⟨0, [], none, 0, Nat.zero_le _, rfl, HF0.out, ARow.nil _ _ _ _ _, rfl, HBU0.out⟩
                case round =>
                  obtain ⟨t, p3, a3, c3, ht, rfl, hbF, hA3, hp3, hbU⟩ := hrel
                  obtain ⟨U, rfl⟩ : ∃ x, x = wr := ⟨_, rfl⟩
                  have hl3 : p3.length = t := by have := congrArg List.length hp3; rw [List.length_map, List.length_replicate] at this; exact this
                  have hzu : Z.heap.size < U.heap.size := hbF.lt
                  have g1 : U.cell? ⟨Z.heap.size, 0, none⟩ = some (.slice a3 t c3) := hbF.cell 0 (by simp)
                  clear s0 s1 f0 f1
                  by_cases htT : t < T
                  · have hti : (t : Int) < (T : Int) := by omega
                    obtain ⟨V, hVe⟩ : ∃ x, U.alloc (Obj.cells #[.string ⟨#[114]⟩] 9) = x := ⟨_, rfl⟩
                    have bV : Below U.heap.size U V := by rw [← hVe]; exact Below.al3 (Below.refl _ _)
                    have sV : V.heap.size = U.heap.size + 1 := by rw [← hVe]; simp
                    have o1 : Box V U.heap.size 9 #[.string ⟨#[114]⟩] := by rw [← hVe]; exact Box.new _ _ _
                    have hA3' := hA3.below keep_strs0 bV
                    obtain ⟨v8, V8, hr8, hA8, hOn8⟩ := hA3'.push keep_strs0 Tryd.underlying45 info_Rep rfl (by decide) (by omega) (by omega) (fun b hb => by show ¬ b < _; omega) ([⟨#[114]⟩], some ⟨U.heap.size, 0, none⟩, 1) (bs := [U.heap.size]) (o_texts (xs := [⟨#[114]⟩]) o1 (by simp) (by intro s hs; simp at hs; subst hs; decide)) (fun b hb => by
                      rw [List.mem_singleton.1 hb]
                      refine ⟨by omega, by show ¬ _ < _; omega, fun e => ?_⟩
                      have := (hA3.row.own U.heap.size (by rw [e]; simp)).2
                      omega) 45
                    obtain ⟨a8, c8, e8, _, _⟩ := hA8.form
                    rw [List.length_append, List.length_singleton, hl3] at e8
                    subst e8
                    simp only [List.length_cons, List.length_nil] at hr8
                    rw [sV] at hr8
                    have hown8 := hA3.row.own
                    have hMn : Z.heap.size ∉ (Value.slice a3 t c3).ownBlock.toList := fun hm => by have := (hown8 _ hm).1; omega
                    have hBF8 := (hbF.below bV).only hOn8 hMn
                    have g3 : V8.cell? ⟨Z.heap.size, 0, none⟩ = some (.slice a3 t c3) := hBF8.cell 0 (by simp)
                    have g4 : V8.frozen? ⟨Z.heap.size, 0, none⟩ = false := hBF8.frozen 0
                    have HN1 := hide (hBF8.put1 (.slice a8 (t + 1) c8))
                    have HN2 := hide (hA8.set keep_strs0 (b := Z.heap.size) (o := 0) (by show _ < _; omega) (.slice a8 (t + 1) c8))
                    have HN3 : Hid ((p3 ++ [(([⟨#[114]⟩], some ⟨U.heap.size, 0, none⟩, 1) : AE ByteArray)]).map Prod.fst = List.replicate (t + 1) [(⟨#[114]⟩ : ByteArray)]) := by show _ = _; rw [List.map_append, hp3, List.replicate_succ']; rfl
                    have HN4 : Hid (Below Z.heap.size Z (V8.setCell ⟨Z.heap.size, 0, none⟩ (.slice a8 (t + 1) c8))) := by
                      have q := bjoin bV hbU
                      exact (q.trans (hOn8.below q.size fun d hd => by have := (hown8 d hd).1; omega)).setCell (p := ⟨Z.heap.size, 0, none⟩) (Nat.le_refl _) _
                    clear hA8 hOn8 hown8 hMn hBF8 hA3' o1 bV hbF hA3 hp3 hbU
                    go_wp2_with (first | (at_builtin; refine wpList_app rfl _ _ 45 rfl hr8 (by first | rfl | simp [Act.eval, Act.put]) (by first | rfl | simp [Act.eval, Act.put]) ?_))
                    go_roundg (T - (t + 1))
                    case measure => omega
                    case rel => exact ⟨t + 1, _, a8, c8, by omega, rfl, HN1.out, HN2.out, HN3.out, HN4.out⟩
                  · have hti : ¬ (t : Int) < (T : Int) := by omega
                    obtain rfl : t = T := by omega
                    obtain ⟨bsf, hOf, hbf⟩ := hA3.all (R := RepO) (fun w b off x bs v h1 h2 => ⟨v, h1, h2⟩) (by omega)
                    rw [hp3] at hOf
                    obtain ⟨v8, V8, a8, c8, e8, hr8, ⟨q1, q2, q3, q4⟩, hS8⟩ := SgB.more (Y := Y) (P := P) HP1.out (Nat.le_refl _) HBX.out HARL.out HPFL.out HBZ.out (V := U) hbU (List.replicate t [⟨#[114]⟩]) a3 c3 (by rw [List.length_replicate]; exact hOf) (fun b hb => by
                      have h1 : ¬ b < Z.heap.size + 1 := (hbf b hb).2
                      refine ⟨HP1.out b (by omega), by omega, .inl (by omega)⟩) (by omega)
                    subst e8
                    rw [List.length_replicate] at hr8
                    have HS8 := hide hS8
                    clear hS8 hOf hbf hA3 hp3 hbF hbU
                    go_wp2_with (first | (at_builtin; refine wpList_app rfl _ _ 42 rfl hr8 (by first | rfl | simp [Act.eval, Act.put]) (by first | rfl | simp [Act.eval, Act.put]) ?_))
                    go_meet
                    case rel => rw [← HIF.out, HX.out]; exact HS8.out
              · have HX : Hid (spSeg 7 X sg = ⟨sg.name, sg.fields ++ [[List.replicate (20 + X) ⟨#[99]⟩]]⟩) := rfl
                obtain ⟨T, hT⟩ : ∃ T, 20 + X = T := ⟨_, rfl⟩
                rw [hT] at HX
                have hTi : 20 + (X : Int) = (T : Int) := by omega
                have hT40 : T ≤ 40 := by omega
                obtain ⟨U0, hU0⟩ : ∃ x, Z.alloc (Obj.cells #[.slice none 0 0] 50) = x := ⟨_, rfl⟩
                have bU0 : Below Z.heap.size Z U0 := by rw [← hU0]; exact Below.al3 (Below.refl _ _)
                have HF0 : Hid (Box U0 Z.heap.size 50 #[.slice none 0 0]) := by rw [← hU0]; exact Box.new _ _ _
                have HU0 := hide hU0
                have HBU0 := hide bU0
                clear hT hU0 bU0
                go_wp2_with fail
                rw [HU0.out]
                go_loopg [168] T (fun q _ wr => ∃ (t : Nat) (a3 : Option Addr) (c3 : Nat), t ≤ T ∧ q = T - t ∧ Box wr Z.heap.size 50 #[.slice a3 t c3] ∧ FB tC 1 9 (Z.heap.size + 1) wr (.slice a3 t c3) (List.replicate t ⟨#[99]⟩) ∧ Below Z.heap.size Z wr)
                case atStart => exact ⟨0, none, 0, Nat.zero_le _, rfl, HF0.out, FB.nil _ _ _ _ _, HBU0.out⟩
                case round =>
                  obtain ⟨t, a3, c3, ht, rfl, hbF, hA3, hbU⟩ := hrel
                  obtain ⟨U, rfl⟩ : ∃ x, x = wr := ⟨_, rfl⟩
                  have hzu : Z.heap.size < U.heap.size := hbF.lt
                  have g1 : U.cell? ⟨Z.heap.size, 0, none⟩ = some (.slice a3 t c3) := hbF.cell 0 (by simp)
                  have hown8 := hA3.own
                  clear s0 s1 f0 f1
                  by_cases htT : t < T
                  · have hti : (t : Int) < (T : Int) := by omega
                    obtain ⟨v8, V8, hr8, hA8, hOn8, _⟩ := app1 (C := tC) (c := 1) (bytes := 16) (z := .string ByteArray.empty) Tryd.underlying48 info_string rfl (by decide) (fun _ => rfl) tC_one hA3 48 ⟨#[99]⟩ (by omega) (by rw [List.length_replicate]; omega) (by decide)
                    obtain ⟨a8, c8, e8, _, _⟩ := hA8.form
                    rw [List.length_append, List.length_singleton, List.length_replicate] at e8
                    subst e8
                    have hMn : Z.heap.size ∉ (Value.slice a3 t c3).ownBlock.toList := fun hm => by have := (hown8 _ hm).1; omega
                    have hBF8 := hbF.only hOn8 hMn
                    have g3 : V8.cell? ⟨Z.heap.size, 0, none⟩ = some (.slice a3 t c3) := hBF8.cell 0 (by simp)
                    have g4 : V8.frozen? ⟨Z.heap.size, 0, none⟩ = false := hBF8.frozen 0
                    have HN1 := hide (hBF8.put1 (.slice a8 (t + 1) c8))
                    have HN2 : Hid (FB tC 1 9 (Z.heap.size + 1) (V8.setCell ⟨Z.heap.size, 0, none⟩ (.slice a8 (t + 1) c8)) (.slice a8 (t + 1) c8) (List.replicate (t + 1) ⟨#[99]⟩)) := by
                      rw [List.replicate_succ']
                      exact hA8.keep fun b hb => Deep.blk_setCell_other _ ⟨Z.heap.size, 0, none⟩ _ b (by have := (hA8.own b hb).1; dsimp only; omega)
                    have HN4 : Hid (Below Z.heap.size Z (V8.setCell ⟨Z.heap.size, 0, none⟩ (.slice a8 (t + 1) c8))) :=
                      (hbU.trans (hOn8.below hbU.size fun d hd => by have := (hown8 d hd).1; omega)).setCell (p := ⟨Z.heap.size, 0, none⟩) (Nat.le_refl _) _
                    clear hA8 hOn8 hown8 hMn hBF8 hbF hA3 hbU
                    go_wp2_with (first | (at_builtin; refine wpList_app rfl _ _ 48 rfl hr8 (by first | rfl | simp [Act.eval, Act.put]) (by first | rfl | simp [Act.eval, Act.put]) ?_))
                    go_roundg (T - (t + 1))
                    case measure => omega
                    case rel => exact ⟨t + 1, a8, c8, by omega, rfl, HN1.out, HN2.out, HN4.out⟩
                  · have hti : ¬ (t : Int) < (T : Int) := by omega
                    obtain rfl : t = T := by omega
                    have g5 : U.cell? ⟨Y.heap.size, 1, none⟩ = some (.slice af sg.fields.length cf) := (HBX.out.below hbU).cell 1 (by simp)
                    obtain ⟨bsr, ⟨hOr, _⟩, hbr⟩ := tC_strs hA3 (by rw [List.length_replicate]; omega) (by intro s hs; rw [List.eq_of_mem_replicate hs]; decide)
                    obtain ⟨V, hVe⟩ : ∃ x, U.alloc (Obj.cells #[.slice a3 t c3] 50) = x := ⟨_, rfl⟩
                    have bV : Below U.heap.size U V := by rw [← hVe]; exact Below.al3 (Below.refl _ _)
                    have sV : V.heap.size = U.heap.size + 1 := by rw [← hVe]; simp
                    have o2 : Box V U.heap.size 50 #[.slice a3 t c3] := by rw [← hVe]; exact Box.new _ _ _
                    have hOV : OStrs V (.slice a3 t c3) (List.replicate t ⟨#[99]⟩) bsr := OAt.kept keptO_str hOr bV.size fun d hd => bV.block d (OAt.lt ltO_str hOr d hd)
                    obtain ⟨v8, V8, a8, c8, e8, hr8, ⟨q1, q2, q3, q4⟩, hS8⟩ := SgB.more (Y := Y) (P := P) HP1.out (Nat.le_refl _) HBX.out HARL.out HPFL.out HBZ.out (V := V) (bjoin bV hbU) [List.replicate t ⟨#[99]⟩] (some ⟨U.heap.size, 0, none⟩) 1 (o_rep1 o2 hOV) (fun b hb => by
                      rw [List.mem_cons] at hb
                      have hbz : Z.heap.size ≤ b := by
                        rcases hb with rfl | hb
                        · omega
                        · have := (hown8 b (hbr b hb)).1; omega
                      refine ⟨HP1.out b (by omega), by omega, .inl hbz⟩) (by omega)
                    subst e8
                    simp only [List.length_cons, List.length_nil] at hr8
                    rw [sV] at hr8
                    have HS8 := hide hS8
                    clear hS8 hOr hbr hA3 hbF hbU hown8 bV o2 hOV
                    go_wp2_with (first | (at_builtin; refine wpList_app rfl _ _ 42 rfl hr8 (by first | rfl | simp [Act.eval, Act.put]) (by first | rfl | simp [Act.eval, Act.put]) ?_))
                    go_meet
                    case rel => rw [← HIF.out, HX.out]; exact HS8.out
              · have HX : Hid (spSeg 8 X sg = ⟨⟨#[90]⟩, sg.fields⟩) := rfl
                go_wp2_with fail
                go_meet
                case rel =>
                  rw [← HIF.out, HX.out]
                  exact ⟨pf, af, cf, by have := HBX.out.set 0 (.string ⟨#[90]⟩); simpa using this, HARL.out.set keepO_reps (b := Y.heap.size) (o := 0) (.inl rfl) _, HPFL.out, HBZ.out.setCell (p := ⟨Y.heap.size, 0, none⟩) (Nat.le_refl _) _⟩
              · have HX : Hid (spSeg A X sg = sg) := spSeg_no A X sg hA9
                have n0 : ¬ (A : Int) = 0 := by omega
                have n1 : ¬ (A : Int) = 1 := by omega
                have n2 : ¬ (A : Int) = 2 := by omega
                have n3 : ¬ (A : Int) = 3 := by omega
                have n4 : ¬ (A : Int) = 4 := by omega
                have n5 : ¬ (A : Int) = 5 := by omega
                have n6 : ¬ (A : Int) = 6 := by omega
                have n7 : ¬ (A : Int) = 7 := by omega
                have n8 : ¬ (A : Int) = 8 := by omega
                go_wp2_with fail
                go_meet
                case rel => rw [← HIF.out, HX.out]; exact HSZ.out
            · have hkAb : ((k : Int) == (AT : Int)) = false := by simpa using hkA
              have HE : Hid (sg2 = sg) := by have := HSG2.out; rw [if_neg (by omega)] at this; exact this.symm
              go_wp2_with fail
              go_meet
              case rel => rw [HE.out]; exact HSZ.out
          case rest =>
            obtain ⟨V1, rfl⟩ : ∃ x, x = wc := ⟨_, rfl⟩
            obtain ⟨pg, a9, c9, hb9, hA9r, hp9, hB9⟩ := hcut
            have HB9 := hide hb9
            have HY9 := hide hB9
            have hlg : sg2.fields.length ≤ 1000 := by
              have := HSG2.out
              rw [← this]
              split
              · exact spSeg_len A X sg hfn (by omega)
              · omega
            have hng : sg2.name.size ≤ 3 := by
              have := HSG2.out
              rw [← this]
              split
              · exact spSeg_name A X sg hfnm
              · exact hfnm
            obtain ⟨bs2, hOF, hbs2⟩ := hA9r.all (R := FieldO) (fun w b off x bs v h1 h2 => ⟨v, h1, h2⟩) (by have h1 : pg.length = sg2.fields.length := (by rw [← hp9, List.length_map]); omega)
            rw [hp9] at hOF
            have hR1 := HRW.out.below hB9
            have hYV : Y.heap.size ≤ V1.heap.size := hB9.size
            have hpl := HPL.out
            obtain ⟨v7, V7, hr7, hR7, hOn7⟩ := hR1.push (by omega) (by omega) (fun b hb => by rintro (e | e | e) <;> omega) (sg2, a9, c9) (by show sg2.name.size ≤ _; omega) (bs := bs2) hOF (fun b hb => by
              have h1 : ¬ (b = Y.heap.size ∨ ¬ P b) := (hbs2 b hb).2
              have h2 : P b := by by_cases h : P b; exact h; exact absurd (Or.inr h) h1
              exact ⟨(hbs2 b hb).1, by rintro (e | e | e); exact (HPD.out b h2).1 e; exact (HPD.out b h2).2.1.1 e; exact (HPD.out b h2).2.1.2 e, (HPD.out b h2).2.2⟩) 23
            dsimp only at hr7
            obtain ⟨a7, c7, e7, _, _⟩ := hR7.form
            rw [List.length_append, List.length_singleton, hpl] at e7
            subst e7
            have hown7 := hR1.row.own
            have hMn : M ∉ (Value.slice am k cm).ownBlock.toList := fun hm => by have := (hown7 _ hm).1; omega
            have HBM1 := hide (HBM.out.below hB9)
            have HBM7 := hide (HBM1.out.only hOn7 hMn)
            have m1 : V1.cell? ⟨M, 0, none⟩ = some (.slice am k cm) := HBM1.out.cell 0 (by simp)
            have t0 : V1.cell? ⟨Y.heap.size, 0, none⟩ = some (.string sg2.name) := HB9.out.cell 0 (by simp)
            have t1 : V1.cell? ⟨Y.heap.size, 1, none⟩ = some (.slice a9 sg2.fields.length c9) := HB9.out.cell 1 (by simp)
            have m7 : V7.cell? ⟨M, 0, none⟩ = some (.slice am k cm) := HBM7.out.cell 0 (by simp)
            have mf7 : V7.frozen? ⟨M, 0, none⟩ = false := HBM7.out.frozen 0
            have HNB7 := hide (HBM7.out.put1 (.slice a7 (k + 1) c7))
            have HNR7 := hide (hR7.set (b := M) (o := 0) (.inl rfl) (.slice a7 (k + 1) c7))
            have HNP7 : Hid ((ps ++ [(sg2, a9, c9)]).map Prod.fst = spSegs A AT X mm (k + 1)) := by show _ = _; rw [HSPT.out, List.map_append, HPS.out]; rfl
            have HNO7 : Hid (Only [M] W0 (V7.setCell ⟨M, 0, none⟩ (.slice a7 (k + 1) c7))) := by
              have q1 : Only [M] W0 V1 := HON.out.trans (Only.of_below hB9)
              have q2 : Only [M] W0 V7 := ⟨hOn7.os.trans q1.os, hOn7.tape.trans q1.tape, hOn7.output.trans q1.output, Nat.le_trans q1.size hOn7.size, fun b h1 h2 => (hOn7.block b (Nat.lt_of_lt_of_le h1 q1.size) (fun hm => by have := (hown7 b hm).1; omega)).trans (q1.block b h1 h2)⟩
              exact q2.set1
            clear hR7 hOn7 hown7 hMn hR1 hOF hbs2 hb9 hA9r hp9 hB9 s0 s1 f0 f1 mp d1
            go_wp2_with (first | (at_builtin; refine wpList_app rfl _ _ 23 rfl hr7 (by first | rfl | simp [Act.eval, Act.put]) (by first | rfl | simp [Act.eval, Act.put]) ?_))
            go_roundg (n - (k + 1))
            case measure => omega
            case rel => exact ⟨k + 1, _, a7, c7, by omega, rfl, by go_num, HNB7.out, HNR7.out, HNP7.out, HNO7.out⟩
    · have hki : ¬ (k : Int) < (n : Int) := by omega
      obtain rfl : k = n := by omega
      have HQY := hide (HQW.out.only HON.out (by simp; omega))
      have r0 : Y.cell? ⟨w.heap.size + 1, 0, none⟩ = some (.slice none 0 0) := HQY.out.cell 0 (by simp)
      have rf : Y.frozen? ⟨w.heap.size + 1, 0, none⟩ = false := HQY.out.frozen 0
      have rl : w.heap.size + 1 < Y.heap.size := HQY.out.lt
      have hwq : w.heap.size ≤ Y.heap.size := HBY.out.size
      have hAc : A = 9 ∨ A = 10 ∨ A = 11 ∨ A ≤ 8 := by omega
      rcases hAc with rfl | rfl | rfl | hA8
      · have HR : Hid (spSegs 9 AT X mm k ++ List.replicate (250 + X - k) ⟨⟨#[90, 90, 90]⟩, []⟩ = r9) := HR9.out
        obtain ⟨T, hT⟩ : ∃ T, 250 + X - k = T := ⟨_, rfl⟩
        rw [hT] at HR
        have hTe : k + T = 250 + X := by omega
        have hpl := HPL.out
        clear hT r0 rf rl
        go_wp2_with fail
        go_loopg [198] T (fun q _ wr => ∃ (t : Nat) (ps : List SgE) (am : Option Addr) (cm : Nat), t ≤ T ∧ q = T - t ∧ Box wr M 25 #[.slice am (k + t) cm] ∧ SgRow W0.heap.size (fun b => b = M ∨ b = w.heap.size + 1 ∨ b < L) wr (.slice am (k + t) cm) ps ∧ ps.map Prod.fst = spSegs 9 AT X mm k ++ List.replicate t ⟨⟨#[90, 90, 90]⟩, []⟩ ∧ Only [M] W0 wr)
        case atStart => exact ⟨0, ps, am, cm, Nat.zero_le _, rfl, HBM.out, HRW.out, by rw [HPS.out]; simp, HON.out⟩
        case round =>
          obtain ⟨t, p5, a5, c5, ht, rfl, hBM5, hR5, hp5, hO5⟩ := hrel
          obtain ⟨U, rfl⟩ : ∃ x, x = wr := ⟨_, rfl⟩
          have hl5 : p5.length = k + t := by have := congrArg List.length hp5; rw [List.length_map, List.length_append, spSegs_len, List.length_replicate] at this; exact this
          have m5 : U.cell? ⟨M, 0, none⟩ = some (.slice a5 (k + t) c5) := hBM5.cell 0 (by simp)
          have hUs : W0.heap.size ≤ U.heap.size := hO5.size
          by_cases htT : t < T
          · have hti : (k : Int) + (t : Int) < 250 + (X : Int) := by omega
            obtain ⟨v7, V7, hr7, hR7, hOn7⟩ := hR5.push hUs (by omega) (fun b hb => by rintro (e | e | e) <;> omega) ((⟨⟨#[90, 90, 90]⟩, []⟩ : Seg), none, 0) (by show (3 : Nat) ≤ _; decide) (bs := []) (o_nilF U none 0) (by simp) 23
            dsimp only at hr7
            simp only [List.length_nil] at hr7
            obtain ⟨a7, c7, e7, _, _⟩ := hR7.form
            rw [List.length_append, List.length_singleton, hl5] at e7
            subst e7
            have hown7 := hR5.row.own
            have hMn : M ∉ (Value.slice a5 (k + t) c5).ownBlock.toList := fun hm => by have := (hown7 _ hm).1; omega
            have hBM7 := hBM5.only hOn7 hMn
            have m7 : V7.cell? ⟨M, 0, none⟩ = some (.slice a5 (k + t) c5) := hBM7.cell 0 (by simp)
            have mf7 : V7.frozen? ⟨M, 0, none⟩ = false := hBM7.frozen 0
            have HNB7 := hide (hBM7.put1 (.slice a7 (k + t + 1) c7))
            have HNR7 := hide (hR7.set (b := M) (o := 0) (.inl rfl) (.slice a7 (k + t + 1) c7))
            have HNP7 : Hid ((p5 ++ [((⟨⟨#[90, 90, 90]⟩, []⟩ : Seg), none, 0)]).map Prod.fst = spSegs 9 AT X mm k ++ List.replicate (t + 1) ⟨⟨#[90, 90, 90]⟩, []⟩) := by show _ = _; rw [List.map_append, hp5, List.replicate_succ', ← List.append_assoc]; rfl
            have HNO7 : Hid (Only [M] W0 (V7.setCell ⟨M, 0, none⟩ (.slice a7 (k + t + 1) c7))) := by
              have q2 : Only [M] W0 V7 := ⟨hOn7.os.trans hO5.os, hOn7.tape.trans hO5.tape, hOn7.output.trans hO5.output, Nat.le_trans hO5.size hOn7.size, fun b h1 h2 => (hOn7.block b (Nat.lt_of_lt_of_le h1 hO5.size) (fun hm => by have := (hown7 b hm).1; omega)).trans (hO5.block b h1 h2)⟩
              exact q2.set1
            clear hR7 hOn7 hown7 hMn hBM7 hBM5 hR5 hp5 hO5
            go_wp2_with (first | (at_builtin; refine wpList_app rfl _ _ 23 rfl hr7 (by first | rfl | simp [Act.eval, Act.put]) (by first | rfl | simp [Act.eval, Act.put]) ?_))
            go_roundg (T - (t + 1))
            case measure => omega
            case rel => exact ⟨t + 1, _, a7, c7, by omega, rfl, HNB7.out, HNR7.out, HNP7.out, HNO7.out⟩
          · have hti : ¬ (k : Int) + (t : Int) < 250 + (X : Int) := by omega
            obtain rfl : t = T := by omega
            have hQ := HQW.out.only hO5 (by simp; omega)
            have r0 : U.cell? ⟨w.heap.size + 1, 0, none⟩ = some (.slice none 0 0) := hQ.cell 0 (by simp)
            have rf : U.frozen? ⟨w.heap.size + 1, 0, none⟩ = false := hQ.frozen 0
            have rl : w.heap.size + 1 < U.heap.size := hQ.lt
            have HFIN : Hid (∀ x, SegsAt L (U.setCell ⟨w.heap.size + 1, 0, none⟩ x) (.slice a5 (k + t) c5) r9 ∧ Below w.heap.size w (U.setCell ⟨w.heap.size + 1, 0, none⟩ x)) := fun x => by
              refine ⟨?_, (HBW.out.trans (hO5.below (by omega) fun b hb => by rw [List.mem_singleton.1 hb]; omega)).setCell (p := ⟨w.heap.size + 1, 0, none⟩) (Nat.le_succ _) x⟩
              rw [← HR.out, ← hp5]
              exact (hR5.set (b := w.heap.size + 1) (o := 0) (.inr (.inl rfl)) x).segsL (by omega) (by omega) fun _ h => .inr (.inr h)
            clear hQ hBM5 hR5 hp5 hO5 hTe
            go_wp2_with fail
            exact bodyPost_ret (v := .agg #[.slice a5 (k + t) c5]) (by simp [results, Tryd.results13, go_sem, r0, rl]) rfl ⟨_, rfl, (HFIN.out _).1, (HFIN.out _).2⟩
      · have HR : Hid (([] : List Seg) = r9) := HR9.out
        have HBF : Hid (∀ x, Below w.heap.size w (Y.setCell ⟨w.heap.size + 1, 0, none⟩ x)) := fun x => HBY.out.setCell (p := ⟨w.heap.size + 1, 0, none⟩) (Nat.le_succ _) x
        go_wp2_with fail
        exact bodyPost_ret (v := .agg #[.slice none 0 0]) (by simp [results, Tryd.results13, go_sem, r0, rl]) rfl ⟨_, rfl, by rw [← HR.out]; exact ⟨by simp, .inl ⟨_, _, rfl, rfl⟩⟩, HBF.out _⟩
      · obtain ⟨Lg, hLg⟩ : ∃ Lg, 39986 + X = Lg := ⟨_, rfl⟩
        have HR : Hid ([(⟨⟨#[77, 83, 72]⟩, []⟩ : Seg), ⟨⟨#[90, 90, 90]⟩, [[[longS ⟨#[118]⟩ (Lg + 1) Lg]]]⟩] = r9) := by rw [← hLg]; exact HR9.out
        have hLi : 39986 + (X : Int) = (Lg : Int) := by omega
        have HLG := hide (long_any ⟨#[118]⟩ (by decide) (by decide) Lg (by omega) Y)
        have hlz := longS_sz ⟨#[118]⟩ (Lg + 1) Lg
        have h118 : (⟨#[118]⟩ : ByteArray).size = 1 := rfl
        obtain ⟨tx, htx⟩ : ∃ t, longS ⟨#[118]⟩ (Lg + 1) Lg = t := ⟨_, rfl⟩
        rw [htx] at HLG HR hlz
        have htxs : tx.size ≤ 9223372036854775807 := by omega
        obtain ⟨V, hVe⟩ : ∃ x, ((Y.alloc (Obj.cells #[.string tx] 9)).alloc (Obj.cells #[.slice (some ⟨Y.heap.size, 0, none⟩) 1 1] 50)).alloc (Obj.cells #[.slice (some ⟨Y.heap.size + 1, 0, none⟩) 1 1] 47) = x := ⟨_, rfl⟩
        have sV : V.heap.size = Y.heap.size + 1 + 1 + 1 := by rw [← hVe]; simp
        have bV : Below Y.heap.size Y V := by rw [← hVe]; exact Below.al3 (Below.al3 (Below.al3 (Below.refl _ _)))
        have o1 : Box V Y.heap.size 9 #[.string tx] := by rw [← hVe]; exact ((Box.new _ _ _).alloc _).alloc _
        have o2 : Box V (Y.heap.size + 1) 50 #[.slice (some ⟨Y.heap.size, 0, none⟩) 1 1] := by rw [← hVe]; exact (boxS _ _ _ _).alloc _
        have o3 : Box V (Y.heap.size + 1 + 1) 47 #[.slice (some ⟨Y.heap.size + 1, 0, none⟩) 1 1] := by
          rw [← hVe]
          have := boxS (Y.alloc (Obj.cells #[.string tx] 9)) (Obj.cells #[.slice (some ⟨Y.heap.size, 0, none⟩) 1 1] 50) 47 #[.slice (some ⟨Y.heap.size + 1, 0, none⟩) 1 1]
          rw [Deep.nblk_alloc] at this
          exact this
        have v3 : V.cell? ⟨Y.heap.size + 1 + 1, 0, none⟩ = some (.slice (some ⟨Y.heap.size + 1, 0, none⟩) 1 1) := o3.cell 0 (by simp)
        obtain ⟨V2, hV2⟩ : ∃ x, (V.alloc (Obj.cells #[.slice (some ⟨Y.heap.size + 1, 0, none⟩) 1 1] 47)).alloc (Obj.cells #[.string ⟨#[77, 83, 72]⟩, .slice none 0 0, .string ⟨#[90, 90, 90]⟩, .slice (some ⟨Y.heap.size + 1 + 1 + 1, 0, none⟩) 1 1] 44) = x := ⟨_, rfl⟩
        have bV2 : Below V.heap.size V V2 := by rw [← hV2]; exact Below.al3 (Below.al3 (Below.refl _ _))
        have o4 : Box V2 (Y.heap.size + 1 + 1 + 1) 47 #[.slice (some ⟨Y.heap.size + 1, 0, none⟩) 1 1] := by rw [← hV2, ← sV]; exact (Box.new _ _ _).alloc _
        have o5 : Box V2 (Y.heap.size + 1 + 1 + 1 + 1) 44 #[.string ⟨#[77, 83, 72]⟩, .slice none 0 0, .string ⟨#[90, 90, 90]⟩, .slice (some ⟨Y.heap.size + 1 + 1 + 1, 0, none⟩) 1 1] := by
          rw [← hV2, ← sV]
          exact boxS _ _ _ _
        have bY2 := bjoin bV2 bV
        have hQ2 := HQY.out.below bY2
        have u0 : V2.cell? ⟨w.heap.size + 1, 0, none⟩ = some (.slice none 0 0) := hQ2.cell 0 (by simp)
        have uf : V2.frozen? ⟨w.heap.size + 1, 0, none⟩ = false := hQ2.frozen 0
        have ul : w.heap.size + 1 < V2.heap.size := hQ2.lt
        have HFIN : Hid (∀ x, SegsAt L (V2.setCell ⟨w.heap.size + 1, 0, none⟩ x) (.slice (some ⟨Y.heap.size + 1 + 1 + 1 + 1, 0, none⟩) 2 2) r9 ∧ Below w.heap.size w (V2.setCell ⟨w.heap.size + 1, 0, none⟩ x)) := fun x => by
          refine ⟨?_, (bjoin bY2 HBY.out).setCell (p := ⟨w.heap.size + 1, 0, none⟩) (Nat.le_succ _) x⟩
          rw [← HR.out]
          have k1 := (o1.below bV2).other (a := ⟨w.heap.size + 1, 0, none⟩) (by dsimp only; omega) x
          have k2 := (o2.below bV2).other (a := ⟨w.heap.size + 1, 0, none⟩) (by dsimp only; omega) x
          have k4 := o4.other (a := ⟨w.heap.size + 1, 0, none⟩) (by dsimp only; omega) x
          have k5 := o5.other (a := ⟨w.heap.size + 1, 0, none⟩) (by dsimp only; omega) x
          exact seg2_at k5 k4 (o_fone (c2 := 1) k1 k2 htxs) (by omega) (by omega) (fun d hd => by simp at hd; omega)
        have HV3 := hide hVe
        have HV4 := hide hV2
        have sY := HBY.out.size
        clear hLg htx o1 o2 o3 o4 o5 bV2 bV bY2 hQ2 r0 rf rl hV2
        go_wp2_with fail
        refine HLG.out.mono ?_
        rintro e y ⟨rfl, hy⟩
        (try rw [hy])
        clear hy y
        have hV2 := HV4.out
        go_wp2_with fail
        exact bodyPost_ret (v := .agg #[.slice (some ⟨Y.heap.size + 1 + 1 + 1 + 1, 0, none⟩) 2 2]) (by simp [results, Tryd.results13, go_sem, u0, ul]) rfl ⟨_, rfl, (HFIN.out _).1, (HFIN.out _).2⟩
      · have HR : Hid (spSegs A AT X mm k = r9) := by have := HR9.out; rw [if_neg (by omega), if_neg (by omega), if_neg (by omega)] at this; exact this
        have n9 : ¬ (A : Int) = 9 := by omega
        have n10 : ¬ (A : Int) = 10 := by omega
        have n11 : ¬ (A : Int) = 11 := by omega
        have m1 : Y.cell? ⟨M, 0, none⟩ = some (.slice am k cm) := HBM.out.cell 0 (by simp)
        have HFIN : Hid (∀ x, SegsAt L (Y.setCell ⟨w.heap.size + 1, 0, none⟩ x) (.slice am k cm) r9 ∧ Below w.heap.size w (Y.setCell ⟨w.heap.size + 1, 0, none⟩ x)) := fun x => by
          refine ⟨?_, HBY.out.setCell (p := ⟨w.heap.size + 1, 0, none⟩) (Nat.le_succ _) x⟩
          rw [← HR.out, ← HPS.out]
          exact (HRW.out.set (b := w.heap.size + 1) (o := 0) (.inr (.inl rfl)) x).segsL (by rw [HPL.out]; omega) (by omega) fun _ h => .inr (.inr h)
        go_wp2_with fail
        exact bodyPost_ret (v := .agg #[.slice am k cm]) (by simp [results, Tryd.results13, go_sem, r0, rl]) rfl ⟨_, rfl, (HFIN.out _).1, (HFIN.out _).2⟩
end Go.Proofs.YtcphfhfockjljaaDoor.Msg
