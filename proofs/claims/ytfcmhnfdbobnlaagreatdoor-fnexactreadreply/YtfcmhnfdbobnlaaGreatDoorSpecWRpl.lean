import Derived.Test.YtfcmhnfdbobnlaaGreatDoorWPurewithRplPurewithSpecROk
import Derived.Test.YtfcmhnfdbobnlaaGreatDoorParsePieceswithSpecWReq2
import Derived.Test.YtfcmhnfdbobnlaaGreatDoorMsgEncodewithImplMsgLwithImplMsgIn
import Derived.Deep.LoopGhost
namespace Go.Proofs.YtfcmhnfdbobnlaaGreatDoor.Msg
open Go.ChangeShapes Go.WideShapes Go.ChangeAt Go.RowKit
set_option linter.unusedVariables false
set_option linter.unusedSimpArgs false

/-! a list of segments that grows by append, to be read -/
/-- what is read of an element does not lie in the row's own block -/
def Els (base : Nat) (g : Option Nat) (w : World) (u : Value) (x : Seg) : Prop := ∀ w' : World, w.heap.size ≤ w'.heap.size → (∀ b, base ≤ b → b < w.heap.size → g ≠ some b → w'.heap[b]? = w.heap[b]?) → FieldsAt base w' u x.fields
structure SRow (base : Nat) (w : World) (v : Value) (xs : List Seg) (us : List Value) : Prop where
  len : us.length = xs.length
  row : w.ownsRow base 45 2 v xs.length (segCells xs us)
  nm : ∀ x ∈ xs, x.name.size ≤ 9223372036854775807
  el : ∀ i (h : i < xs.length) (h1 : i < us.length), Els base v.ownBlock w us[i] xs[i]
theorem SRow.kept {base : Nat} {w w' : World} {v : Value} {xs : List Seg} {us : List Value} (h : SRow base w v xs us) (hb : Below w.heap.size w w') : SRow base w' v xs us :=
  ⟨h.len, own_below2 h.row hb, h.nm, fun i hi h1 W hs hW => h.el i hi h1 W (Nat.le_trans hb.size hs) fun b hba hlt hne => (hW b hba (Nat.lt_of_lt_of_le hlt hb.size) hne).trans (hb.block b hlt)⟩
theorem SRow.above {base : Nat} {w w' : World} {v : Value} {xs : List Seg} {us : List Value} (h : SRow base w v xs us) (hl : xs.length ≤ 9223372036854775807) (hs : w.heap.size ≤ w'.heap.size) (hb : ∀ b, base ≤ b → w'.heap[b]? = w.heap[b]?) : SegsAt base w' v xs :=
  segs_of_row xs us h.len (own_above2 h.row hb) (Nat.le_refl _) h.nm hl fun i hi h1 => h.el i hi h1 w' hs fun b hba _ _ => hb b hba
theorem SRow.segs {base : Nat} {w : World} {v : Value} {xs : List Seg} {us : List Value} (h : SRow base w v xs us) (hl : xs.length ≤ 9223372036854775807) : SegsAt base w v xs := h.above hl (Nat.le_refl _) fun _ _ => rfl
theorem SRow.push {base : Nat} {w w3 w4 : World} {v v' u : Value} {xs : List Seg} {us : List Value} {x : Seg} (h : SRow base w v xs us) (hbase : base ≤ w.heap.size) (hb : Below w.heap.size w w3) (hx : x.name.size ≤ 9223372036854775807) {lo : Nat} (hlo : w.heap.size ≤ lo) (hu : FieldsAt lo w3 u x.fields)
    {n : Nat} (hn : n = xs.length) (ho : w4.ownsRow base 45 2 v' (n + 1) (segCells xs us ++ [.string x.name, u])) (hg : w3.grownBy w4 v.ownBlock) (hat : v'.ownBlock = v.ownBlock ∨ v'.ownBlock = some w3.heap.size) :
    SRow base w4 v' (xs ++ [x]) (us ++ [u]) := by
  subst hn
  have hown : ∀ b, v.ownBlock = some b → b < w.heap.size := fun b hb' => (own_lt2 h.row hb').2
  have hs := hb.size
  have hs34 := hg.size
  have hold : ∀ b, b < w.heap.size → v.ownBlock ≠ some b → w4.heap[b]? = w.heap[b]? := fun b hb1 hb2 => (hg.block b (Nat.lt_of_lt_of_le hb1 hs) (fun e => hb2 e.symm)).trans (hb.block b hb1)
  have hnew : ∀ b, w.heap.size ≤ b → b < w3.heap.size → w4.heap[b]? = w3.heap[b]? := fun b h1 h2 => hg.block b h2 (fun e => by have := hown b e.symm; omega)
  have hv' : ∀ b, b < w3.heap.size → v.ownBlock ≠ some b → v'.ownBlock ≠ some b := fun b h1 h2 e => by
    rcases hat with ha | ha
    · exact h2 (ha.symm.trans e)
    · rw [ha] at e; injection e with e; omega
  refine ⟨by simp [h.len], by rw [segCells_snoc _ _ _ _ h.len]; simpa using ho, fun y hy => ?_, fun i hi h1 W hsW hW => ?_⟩
  · rcases List.mem_append.1 hy with hy | hy
    · exact h.nm y hy
    · rw [List.mem_singleton.1 hy]; exact hx
  · by_cases hil : i < xs.length
    · have e1 : (xs ++ [x])[i] = xs[i] := List.getElem_append_left hil
      have e2 : (us ++ [u])[i] = us[i]'(by rw [h.len]; exact hil) := List.getElem_append_left (by rw [h.len]; exact hil)
      rw [e1, e2]
      refine h.el i hil _ W (by omega) fun b hba hlt hne => ?_
      exact (hW b hba (by omega) (hv' b (by omega) hne)).trans (hold b hlt hne)
    · have hi2 : i = xs.length := by simp at hi; omega
      subst hi2
      have e1 : (xs ++ [x])[xs.length]'hi = x := by simp
      have e2 : (us ++ [u])[xs.length]'h1 = u := by simp [← h.len]
      rw [e1, e2]
      refine low_at (At.same kept_field hu ⟨by omega, fun b hlb hlt => ?_⟩) (by omega)
      exact (hW b (by omega) (by omega) (hv' b hlt (fun e => by have := hown b e; omega))).trans (hnew b (by omega) hlt)
theorem SRow.form {base : Nat} {w : World} {v : Value} {xs : List Seg} {us : List Value} (h : SRow base w v xs us) : ∃ a c, v = .slice a xs.length c := own_form2 h.row
theorem SRow.two {base : Nat} {w : World} {x y : Seg} {a b : Value} (hlo : base ≤ w.heap.size) (hx : x.name.size ≤ 9223372036854775807) (hy : y.name.size ≤ 9223372036854775807) (ha : FieldsAt base w a x.fields) (hb : FieldsAt base w b y.fields) :
    SRow base (w.alloc (Obj.cells #[.string x.name, a, .string y.name, b] 45)) (.slice (some ⟨w.heap.size, 0, none⟩) 2 2) [x, y] [a, b] := by
  refine ⟨rfl, two_row base w x y a b hlo, fun s hs => ?_, fun i hi h1 W hs hW => ?_⟩
  · simp only [List.mem_cons, List.not_mem_nil, or_false] at hs
    rcases hs with rfl | rfl <;> assumption
  · have key : ∀ (u : Value) (fs : List Field), FieldsAt base w u fs → FieldsAt base W u fs := fun u fs h => At.same kept_field h ⟨by rw [Deep.nblk_alloc] at hs; omega, fun b hba hlt => (hW b hba (by rw [Deep.nblk_alloc]; omega) (by intro e; simp [Value.ownBlock] at e; omega)).trans (Deep.blk_alloc_lt _ _ _ hlt)⟩
    match i, hi with
    | 0, _ => exact key _ _ ha
    | 1, _ => exact key _ _ hb

/-! WriteReply of the specification -/
theorem decT_size3 (u : Nat) (h : u ≤ 9999) : (decT u).size ≤ 20 := by
  have key : ∀ (j u : Nat), u < 10 ^ (j + 1) → (decT u).size ≤ j + 1 := by
    intro j
    induction j with
    | zero => intro u hu; rw [decT_one u (by omega)]; exact Nat.le_refl _
    | succ j ih =>
      intro u hu
      by_cases h10 : u < 10
      · rw [decT_one u h10]; show 1 ≤ _; omega
      · rw [decT_more u h10, ByteArray.size_append]
        have := ih (u / 10) (by rw [Nat.pow_succ] at hu; omega)
        have h1 : (⟨#[digC (u % 10)]⟩ : ByteArray).size = 1 := rfl
        omega
  have := key 3 u (by omega)
  omega
def statusOf (r : Rpl) : ByteArray := if aAA r.ack then ⟨#[79, 75]⟩ else r.ack
def frontM (r : Rpl) : List Seg := if aAA r.ack then [rspS, msaS r.ack r.control] else [rspS, msaS r.ack r.control, errS (decT r.code.toNat)]
theorem front_spec {r : Rpl} (h : okRpl r = true) : frontM r ++ [qakS r.tag (statusOf r)] ++ r.rows.map rdtS ++ dscM r.pointer = specM r := by
  unfold frontM statusOf specM
  cases h1 : aAA r.ack
  · simp only [Bool.false_eq_true, if_false]
    unfold okRpl at h
    rw [h1] at h
    simp only [Bool.false_eq_true, if_false, Bool.and_eq_true, decide_eq_true_eq] at h
    obtain ⟨_, _, _, _, _, _, h5, h6⟩ := h
    rw [List.length_eq_zero_iff.1 h5, errM_is]
    unfold dscM
    rw [if_pos h6]
    rfl
  · simp only [if_true]
    have e := ack_is h1
    unfold pageM
    rw [e]
    rfl
theorem specM_sz {r : Rpl} (h : okRpl r = true) : msgSz (specM r) ≤ 1048576 := by
  have h' := h
  unfold okRpl at h
  unfold specM
  cases h1 : aAA r.ack
  · rw [h1] at h
    simp only [Bool.false_eq_true, if_false, Bool.and_eq_true, Bool.or_eq_true, decide_eq_true_eq] at h ⊢
    obtain ⟨g1, _, _, g4, g5, g6, _⟩ := h
    refine errM_sz g1 (by rw [ack_sz g4]; decide) ?_
    have h3 := decT_size3 r.code.toNat (by omega)
    omega
  · simp only [if_true, Bool.and_eq_true] at h ⊢
    exact pageM_sz h.1 h.2.2.1 h.2.1

set_option maxRecDepth 100000 in
set_option maxHeartbeats 8000000 in
theorem writeRplS_bad (r : Rpl) (a : Option Addr) (cap : Nat) (w : World) {lo : Nat} (h1 : r.control.size ≤ 9223372036854775807) (h2 : r.tag.size ≤ 9223372036854775807) (h3 : r.pointer.size ≤ 9223372036854775807) (hv : StrsAt lo w (.slice a r.rows.length cap) r.rows) (hok : okRpl r = false) :
    Calls Tryz.prog 16 #[rplV r (.slice a r.rows.length cap)] w (ReadPost w []) := by
  have HOKC := hide (fun W hW => replyOkS_any r a cap W (lo := lo) h1 h2 h3 (At.kept kept_str hv (w' := W) hW))
  rw [hok] at HOKC
  obtain ⟨ack, control, code, tag, rows, pointer⟩ := r
  unfold rplV at HOKC ⊢
  dsimp only at HOKC hv ⊢
  obtain ⟨x1, hx1⟩ : ∃ x1, w.alloc (Obj.cells #[.string ack, .string control, .int .i64 code, .string tag, .slice a rows.length cap, .string pointer] 28) = x1 := ⟨_, rfl⟩
  obtain ⟨w1, hw1⟩ : ∃ w1, x1.alloc (Obj.cells #[.slice none 0 0] 33) = w1 := ⟨_, rfl⟩
  have sx1 : x1.heap.size = w.heap.size + 1 := by rw [← hx1]; simp
  have sw1 : w1.heap.size = w.heap.size + 1 + 1 := by rw [← hw1]; simp [sx1]
  have bx1 : Below w.heap.size w x1 := by rw [← hx1]; exact (Below.refl _ _).alloc (Nat.le_refl _) _
  have bw1 : Below x1.heap.size x1 w1 := by rw [← hw1]; exact (Below.refl _ _).alloc (Nat.le_refl _) _
  have HC : Hid (w1.cell? ⟨w.heap.size, 0, none⟩ = some (.string ack) ∧ w1.cell? ⟨w.heap.size, 1, none⟩ = some (.string control) ∧ w1.cell? ⟨w.heap.size, 2, none⟩ = some (.int .i64 code) ∧ w1.cell? ⟨w.heap.size, 3, none⟩ = some (.string tag) ∧ w1.cell? ⟨w.heap.size, 4, none⟩ = some (.slice a rows.length cap) ∧ w1.cell? ⟨w.heap.size, 5, none⟩ = some (.string pointer)) := by
    refine ⟨?_, ?_, ?_, ?_, ?_, ?_⟩ <;> exact (bw1.cell (by rw [sx1]; simp)).trans (by rw [← hx1]; simp)
  obtain ⟨k0, k1, k2, k3, k4, k5⟩ := HC.out
  have c2 : w1.cell? ⟨w.heap.size + 1, 0, none⟩ = some (.slice none 0 0) := by rw [← hw1, ← sx1]; simp
  have f2 : w1.frozen? ⟨w.heap.size + 1, 0, none⟩ = false := by rw [← hw1, ← sx1]; simp
  have HB1 := hide (bjoin' bw1 bx1)
  clear hv
  go_enter Tryz.func16, Tryz.ntmps16
  go_wp2_with fail
  refine (HOKC.out _ HB1.out).mono ?_
  rintro e W ⟨rfl, hb⟩
  have rl : w.heap.size + 1 < W.heap.size := by have := hb.size; omega
  have r0 : W.cell? ⟨w.heap.size + 1, 0, none⟩ = some (.slice none 0 0) := (hb.cell (p := ⟨w.heap.size + 1, 0, none⟩) (by rw [sw1]; simp)).trans c2
  have rf : W.frozen? ⟨w.heap.size + 1, 0, none⟩ = false := (hb.frozen (p := ⟨w.heap.size + 1, 0, none⟩) (by rw [sw1]; simp)).trans f2
  have HBF : Hid (∀ x, Below w.heap.size w (W.setCell ⟨w.heap.size + 1, 0, none⟩ x)) := fun x => (bjoin' hb HB1.out).setCell (p := ⟨w.heap.size + 1, 0, none⟩) (Nat.le_succ _) x
  clear hb k0 k1 k2 k3 k4 k5 c2 f2 hx1 hw1 sx1 sw1 bx1 bw1
  go_wp2_with fail
  exact bodyPost_ret (v := .agg #[.slice none 0 0]) (by simp [results, Tryz.results16, go_sem, r0, rl]) rfl ⟨_, rfl, ⟨by simp, .inl ⟨_, _, rfl, rfl⟩⟩, HBF.out _⟩

set_option maxRecDepth 100000 in
set_option maxHeartbeats 16000000 in
theorem writeRplS_good (r : Rpl) (a : Option Addr) (cap : Nat) (w : World) {lo : Nat} (h0 : r.ack.size ≤ 1048576) (h1 : r.control.size ≤ 1048576) (h2 : r.tag.size ≤ 1048576) (h3 : r.pointer.size ≤ 1048576) (hv : StrsAt lo w (.slice a r.rows.length cap) r.rows) (hok : okRpl r = true) :
    Calls Tryz.prog 16 #[rplV r (.slice a r.rows.length cap)] w (ReadPost w (onlyGood (specM r))) := by
  have HOKC := hide (fun W hW => replyOkS_any r a cap W (lo := lo) (by omega) (by omega) (by omega) (At.kept kept_str hv (w' := W) hW))
  rw [hok] at HOKC
  have HROW : Hid (r.rows.length ≤ 200 ∧ ∀ s ∈ r.rows, s.size ≤ 1048576) := by
    unfold okRpl at hok
    simp only [Bool.and_eq_true] at hok
    obtain ⟨q1, q2⟩ := rows_sz hok.2.2.1
    exact ⟨q1, fun s hs => Nat.le_trans (q2 s hs) (by decide)⟩
  have HCODE : Hid (aAA r.ack = false → 1 ≤ r.code ∧ r.code ≤ 999) := fun h => by
    unfold okRpl at hok
    rw [h] at hok
    simp only [Bool.false_eq_true, if_false, Bool.and_eq_true, decide_eq_true_eq] at hok
    exact ⟨hok.2.2.2.2.1, hok.2.2.2.2.2.1⟩
  have HSPEC := hide (front_spec hok)
  have HSZ := hide (specM_sz hok)
  have HRV := hide hv
  obtain ⟨mM, hmM⟩ : ∃ m, specM r = m := ⟨_, rfl⟩
  rw [hmM] at HSPEC HSZ ⊢
  clear hmM hok hv
  obtain ⟨ack, control, code, tag, rows, pointer⟩ := r
  unfold frontM statusOf at HSPEC
  unfold rplV at HOKC ⊢
  dsimp only at HOKC HROW HCODE HSPEC HRV h0 h1 h2 h3 ⊢
  have hrl : rows.length ≤ 200 := HROW.out.1
  obtain ⟨iS, hiS, hS0, hS1, hS2⟩ := info_facts info_Seg2
  obtain ⟨x1, hx1⟩ : ∃ x1, w.alloc (Obj.cells #[.string ack, .string control, .int .i64 code, .string tag, .slice a rows.length cap, .string pointer] 28) = x1 := ⟨_, rfl⟩
  obtain ⟨w1, hw1⟩ : ∃ w1, x1.alloc (Obj.cells #[.slice none 0 0] 33) = w1 := ⟨_, rfl⟩
  have sx1 : x1.heap.size = w.heap.size + 1 := by rw [← hx1]; simp
  have sw1 : w1.heap.size = w.heap.size + 1 + 1 := by rw [← hw1]; simp [sx1]
  have bx1 : Below w.heap.size w x1 := by rw [← hx1]; exact (Below.refl _ _).alloc (Nat.le_refl _) _
  have bw1 : Below x1.heap.size x1 w1 := by rw [← hw1]; exact (Below.refl _ _).alloc (Nat.le_refl _) _
  have HC : Hid (w1.cell? ⟨w.heap.size, 0, none⟩ = some (.string ack) ∧ w1.cell? ⟨w.heap.size, 1, none⟩ = some (.string control) ∧ w1.cell? ⟨w.heap.size, 2, none⟩ = some (.int .i64 code) ∧ w1.cell? ⟨w.heap.size, 3, none⟩ = some (.string tag) ∧ w1.cell? ⟨w.heap.size, 4, none⟩ = some (.slice a rows.length cap) ∧ w1.cell? ⟨w.heap.size, 5, none⟩ = some (.string pointer)) := by
    refine ⟨?_, ?_, ?_, ?_, ?_, ?_⟩ <;> exact (bw1.cell (by rw [sx1]; simp)).trans (by rw [← hx1]; simp)
  obtain ⟨k0, k1, k2, k3, k4, k5⟩ := HC.out
  have c2 : w1.cell? ⟨w.heap.size + 1, 0, none⟩ = some (.slice none 0 0) := by rw [← hw1, ← sx1]; simp
  have f2 : w1.frozen? ⟨w.heap.size + 1, 0, none⟩ = false := by rw [← hw1, ← sx1]; simp
  have HB1 := hide (bjoin' bw1 bx1)
  go_enter Tryz.func16, Tryz.ntmps16
  go_wp2_with fail
  refine (HOKC.out _ HB1.out).mono ?_
  rintro e W ⟨rfl, hb⟩
  have rl : w.heap.size + 1 < W.heap.size := by have := hb.size; omega
  have hlt0 : w.heap.size < w1.heap.size := by rw [sw1]; omega
  have r0 : W.cell? ⟨w.heap.size + 1, 0, none⟩ = some (.slice none 0 0) := (hb.cell (p := ⟨w.heap.size + 1, 0, none⟩) (by rw [sw1]; simp)).trans c2
  have rf : W.frozen? ⟨w.heap.size + 1, 0, none⟩ = false := (hb.frozen (p := ⟨w.heap.size + 1, 0, none⟩) (by rw [sw1]; simp)).trans f2
  have KALL : Hid (∀ X, Below W.heap.size W X → X.cell? ⟨w.heap.size, 0, none⟩ = some (.string ack) ∧ X.cell? ⟨w.heap.size, 1, none⟩ = some (.string control) ∧ X.cell? ⟨w.heap.size, 2, none⟩ = some (.int .i64 code) ∧ X.cell? ⟨w.heap.size, 3, none⟩ = some (.string tag) ∧ X.cell? ⟨w.heap.size, 4, none⟩ = some (.slice a rows.length cap) ∧ X.cell? ⟨w.heap.size, 5, none⟩ = some (.string pointer)) := fun X h => by
    have h' := bjoin' h hb
    exact ⟨(h'.cell (p := ⟨w.heap.size, 0, none⟩) hlt0).trans k0, (h'.cell (p := ⟨w.heap.size, 1, none⟩) hlt0).trans k1, (h'.cell (p := ⟨w.heap.size, 2, none⟩) hlt0).trans k2, (h'.cell (p := ⟨w.heap.size, 3, none⟩) hlt0).trans k3, (h'.cell (p := ⟨w.heap.size, 4, none⟩) hlt0).trans k4, (h'.cell (p := ⟨w.heap.size, 5, none⟩) hlt0).trans k5⟩
  have KRES : Hid (∀ X, Below W.heap.size W X → X.cell? ⟨w.heap.size + 1, 0, none⟩ = some (.slice none 0 0) ∧ X.frozen? ⟨w.heap.size + 1, 0, none⟩ = false ∧ w.heap.size + 1 < X.heap.size) := fun X h =>
    ⟨(h.cell (p := ⟨w.heap.size + 1, 0, none⟩) rl).trans r0, (h.frozen (p := ⟨w.heap.size + 1, 0, none⟩) rl).trans rf, by have := h.size; omega⟩
  obtain ⟨wd, hwd⟩ : ∃ wd, W.drew = wd := ⟨_, rfl⟩
  have hbd : Below W.heap.size W wd := by rw [← hwd]; exact (Below.refl _ _).drew
  have HSD : Hid (wd.heap.size = W.heap.size) := by rw [← hwd]; exact rfl
  have HRL := hide rl
  have hbd0 := (Below.refl W.heap.size W).drew
  have HBW := hide (bjoin' hb HB1.out)
  have KROW := hide (fun X (h : Below W.heap.size W X) => At.kept kept_str HRV.out (bjoin' h HBW.out))
  clear k0 k1 k2 k3 k4 k5 hx1 hw1 sx1 sw1 bx1 bw1 c2 f2 hb r0 rf HC rl hlt0
  go_upto_region 3 with fail
  go_cut [3] (fun v3 wx => ∃ (w3 : World) (a1 : Option Addr) (c1 : Nat) (a2 : Option Addr) (c2 : Nat), v3 = .slice (some ⟨w3.heap.size, 0, none⟩) 2 2 ∧ wx = w3.alloc (Obj.cells #[.string ⟨#[77, 83, 72]⟩, .slice a1 (headF [⟨#[82, 83, 80]⟩, ⟨#[90, 48, 49]⟩] ⟨#[]⟩).length c1, .string ⟨#[77, 83, 65]⟩, .slice a2 (trimE List.isEmpty [wordF ack, wordF control]).length c2] 45) ∧ FieldsAt W.heap.size w3 (.slice a1 (headF [⟨#[82, 83, 80]⟩, ⟨#[90, 48, 49]⟩] ⟨#[]⟩).length c1) (headF [⟨#[82, 83, 80]⟩, ⟨#[90, 48, 49]⟩] ⟨#[]⟩) ∧ FieldsAt W.heap.size w3 (.slice a2 (trimE List.isEmpty [wordF ack, wordF control]).length c2) (trimE List.isEmpty [wordF ack, wordF control]) ∧ Below W.heap.size W w3)
  case first =>
    go_region_held3 (fun X => X.cell? ⟨w.heap.size, 0, none⟩ = some (.string ack) ∧ X.cell? ⟨w.heap.size, 1, none⟩ = some (.string control) ∧ X.cell? ⟨w.heap.size, 2, none⟩ = some (.int .i64 code) ∧ X.cell? ⟨w.heap.size, 3, none⟩ = some (.string tag) ∧ X.cell? ⟨w.heap.size, 4, none⟩ = some (.slice a rows.length cap) ∧ X.cell? ⟨w.heap.size, 5, none⟩ = some (.string pointer))
      (first | with_reducible exact KALL.out _ hbd0 | with_reducible exact KALL.out _ hbd | with_reducible exact KALL.out _ (hbd.alloc hbd.size _) | with_reducible exact KALL.out _ hbA | with_reducible exact KALL.out _ (hbA.alloc hbA.size _) | with_reducible exact KALL.out _ hbB | with_reducible exact KALL.out _ (hbB.alloc hbB.size _))
      (first
        | (go_at_call 30; refine (headS_any ⟨#[82, 83, 80]⟩ ⟨#[90, 48, 49]⟩ ⟨#[]⟩ _ (by decide) (by decide) (by decide)).mono ?_; rintro e w2 ⟨u1, rfl, hF1, hb2⟩; obtain ⟨a1, c1, rfl⟩ := form_at hF1;
            first
            | (have hbA : Below W.heap.size W w2 := by with_reducible exact bjoin hb2 hbd
               have hG1 : FieldsAt W.heap.size w2 _ _ := low_at hF1 (by rw [HSD.out]; exact Nat.le_succ _))
            | (have hbA : Below W.heap.size W w2 := by with_reducible exact bjoin hb2 (hbd.alloc hbd.size _)
               have hG1 : FieldsAt W.heap.size w2 _ _ := low_at hF1 (by rw [Deep.nblk_alloc, HSD.out]; omega)))
        | (go_at_call 31;
            first
            | (with_reducible refine (seg_any ⟨#[77, 83, 65]⟩ [ack, control] (.slice (some ⟨w2.heap.size, 0, none⟩) 2 2) (w2.alloc (Obj.cells #[.string ack, .string control] 9)) (words2_at w2 ack control h0 h1) two_le (two_sz h0 h1)).mono ?_; rintro e w3 ⟨u2, rfl, hR2, hb3⟩
               have hF2 : FieldsAt W.heap.size w3 u2 (trimE List.isEmpty [wordF ack, wordF control]) := low_at (seg_read [ack, control] hR2 two_le) (by rw [Deep.nblk_alloc]; have := hbA.size; omega)
               have hbB := bjoin hb3 (hbA.alloc hbA.size _)
               have hG2 : FieldsAt W.heap.size w3 _ _ := At.kept kept_field (At.kept kept_field hG1 ((Below.refl _ _).alloc (Nat.le_refl _) _)) hb3
               clear hR2; obtain ⟨a2, c2, rfl⟩ := form_at hF2)
            | (with_reducible refine (seg_any ⟨#[77, 83, 65]⟩ [ack, control] (.slice (some ⟨wd.heap.size, 0, none⟩) 2 2) w2 (keep_strs (words2_at wd ack control h0 h1) hb2) two_le (two_sz h0 h1)).mono ?_; rintro e w3 ⟨u2, rfl, hR2, hb3⟩
               have hF2 : FieldsAt W.heap.size w3 u2 (trimE List.isEmpty [wordF ack, wordF control]) := low_at (seg_read [ack, control] hR2 two_le) (by have := hbA.size; omega)
               have hbB := bjoin hb3 hbA
               have hG2 : FieldsAt W.heap.size w3 _ _ := At.kept kept_field hG1 hb3
               clear hR2; obtain ⟨a2, c2, rfl⟩ := form_at hF2)))
    all_goals
      have HREL := hide (And.intro hG2 (And.intro hF2 hbB))
      clear hG1 hG2 hF1 hF2 hb2 hb3 hbA hbB
      go_wp2_with fail
      go_meet
      case rel => exact ⟨w3, a1, c1, a2, c2, rfl, rfl, HREL.out.1, HREL.out.2.1, HREL.out.2.2⟩
  case rest =>
    obtain ⟨w3, a1, c1, a2, c2, rfl, hwx, hG, hF, hb3⟩ := hcut
    obtain ⟨X, hX⟩ : ∃ X, w3.alloc (Obj.cells #[.string ⟨#[77, 83, 72]⟩, .slice a1 (headF [⟨#[82, 83, 80]⟩, ⟨#[90, 48, 49]⟩] ⟨#[]⟩).length c1, .string ⟨#[77, 83, 65]⟩, .slice a2 (trimE List.isEmpty [wordF ack, wordF control]).length c2] 45) = X := ⟨_, rfl⟩
    have HRX : Hid (SRow W.heap.size X (.slice (some ⟨w3.heap.size, 0, none⟩) 2 2) [rspS, msaS ack control] [.slice a1 (headF [⟨#[82, 83, 80]⟩, ⟨#[90, 48, 49]⟩] ⟨#[]⟩).length c1, .slice a2 (trimE List.isEmpty [wordF ack, wordF control]).length c2]) := by
      rw [← hX]
      exact SRow.two (x := rspS) (y := msaS ack control) hb3.size (by decide) (show (3 : Nat) ≤ _ by decide) hG hF
    have HBX : Hid (Below W.heap.size W X) := by rw [← hX]; exact hb3.alloc hb3.size _
    rw [hwx, hX]
    clear hwx hX hG hF hb3
    obtain ⟨m0, m1, m2, m3, m4, m5⟩ := KALL.out X HBX.out
    go_upto_if 21 with fail
    go_cut [3, 4] (fun v3 v4 wx => ∃ (xs : List Seg) (us : List Value) (a8 : Option Addr) (c8 : Nat) (st : ByteArray), v3 = .slice a8 xs.length c8 ∧ v4 = .string st ∧ SRow W.heap.size wx (.slice a8 xs.length c8) xs us ∧ Below W.heap.size W wx ∧ xs ++ [qakS tag st] ++ rows.map rdtS ++ dscM pointer = mM ∧ st.size ≤ 1048576 ∧ xs.length ≤ 4)
    case first =>
      cases hAA : aAA ack
      · have e1 : (ack.toList == [65, 65]) = false := hAA
        have e1' : ¬ ack.toList = [65, 65] := by rw [beq_eq_false_iff_ne] at e1; exact e1
        have e1n : (!(ack.toList == [65, 65])) = true := by rw [e1]; rfl
        obtain ⟨q1, q2⟩ := HCODE.out hAA
        have HSP2 : Hid ([rspS, msaS ack control, errS (decT code.toNat)] ++ [qakS tag ack] ++ rows.map rdtS ++ dscM pointer = mM) := by have := HSPEC.out; rw [hAA] at this; exact this
        have hdz : (decT code.toNat).size ≤ 1048576 := by have := decT_size3 code.toNat (by omega); omega
        have HSH := hide (fun X => show_any code.toNat X (by omega))
        have ecode : ((code.toNat : Nat) : Int) = code := by omega
        rw [ecode] at HSH
        clear hAA ecode
        rw [e1n]
        clear e1n
        go_wp2_with fail
        refine (HSH.out _).mono ?_
        rintro e Y ⟨rfl, hbY⟩
        have HRY := hide (HRX.out.kept hbY)
        have HBY : Hid (Below W.heap.size W Y) := bjoin' hbY HBX.out
        clear m0 m1 m2 m3 m4 m5 hbY
        obtain ⟨m0, m1, m2, m3, m4, m5⟩ := KALL.out Y HBY.out
        go_wp2_with fail
        refine (seg_any ⟨#[69, 82, 82]⟩ [⟨#[]⟩, ⟨#[]⟩, (decT code.toNat)] _ _ (words3_at Y ⟨#[]⟩ ⟨#[]⟩ (decT code.toNat) (by decide) (by decide) hdz) three_le (three_sz (by decide) (by decide) hdz)).mono ?_
        rintro e Z5 ⟨uZ, rfl, hRZ, hbZ⟩
        have hFZ : FieldsAt _ Z5 uZ (trimE List.isEmpty [([] : Field), ([] : Field), wordF (decT code.toNat)]) := seg_read [⟨#[]⟩, ⟨#[]⟩, (decT code.toNat)] hRZ three_le
        obtain ⟨aZ, cZ, rfl⟩ := form_at hFZ
        have hcZ : Below Y.heap.size Y Z5 := bjoin' hbZ ((Below.refl _ _).alloc (Nat.le_refl _) _)
        have hdZ : Below Y.heap.size Y (Z5.alloc (Obj.cells #[.string ⟨#[69, 82, 82]⟩, .slice aZ (trimE List.isEmpty [([] : Field), ([] : Field), wordF (decT code.toNat)]).length cZ] 45)) := hcZ.alloc hcZ.size _
        have hownZ : (Z5.alloc (Obj.cells #[.string ⟨#[69, 82, 82]⟩, .slice aZ (trimE List.isEmpty [([] : Field), ([] : Field), wordF (decT code.toNat)]).length cZ] 45)).ownsRow W.heap.size 45 2 (.slice (some ⟨w3.heap.size, 0, none⟩) 2 2) 2 (segCells [rspS, msaS ack control] [.slice a1 (headF [⟨#[82, 83, 80]⟩, ⟨#[90, 48, 49]⟩] ⟨#[]⟩).length c1, .slice a2 (trimE List.isEmpty [wordF ack, wordF control]).length c2]) := own_below2 HRY.out.row hdZ
        have HFZ : Hid (FieldsAt Y.heap.size (Z5.alloc (Obj.cells #[.string ⟨#[69, 82, 82]⟩, .slice aZ (trimE List.isEmpty [([] : Field), ([] : Field), wordF (decT code.toNat)]).length cZ] 45)) (.slice aZ (trimE List.isEmpty [([] : Field), ([] : Field), wordF (decT code.toNat)]).length cZ) (trimE List.isEmpty [([] : Field), ([] : Field), wordF (decT code.toNat)])) := low_at (At.kept kept_field hFZ ((Below.refl _ _).alloc (Nat.le_refl _) _)) (by rw [Deep.nblk_alloc]; omega)
        have hsZ := hcZ.size
        have hbaseZ : W.heap.size ≤ Z5.heap.size := by have := HBY.out.size; omega
        have HDZ := hide hdZ
        clear hFZ hRZ hbZ hcZ hdZ
        go_wp2_with (first
          | (at_builtin; refine wpList_append_own_at _ rfl _ _ 31 rfl W.heap.size 45 iS (.agg #[.string ByteArray.empty, .slice none 0 0]) 2 40 Tryz.underlying31 hiS hS0 hS1 hS2 rfl (by decide) _ _ _ rfl hownZ ⟨Z5.heap.size, 0, none⟩ 1 1 [.string ⟨#[69, 82, 82]⟩, .slice aZ (trimE List.isEmpty [([] : Field), ([] : Field), wordF (decT code.toNat)]).length cZ] rfl rfl (new_cells2 Z5 _ _ _) (one_cells2 _ _ _ _) (by unfold maxLen; omega) (by omega) (by rw [Deep.nblk_alloc]; omega) ?_)
          | fail)
        intro vZ Z hownZ' hgrowZ hnilZ hatZ
        have HRZ : Hid (SRow W.heap.size Z vZ ([rspS, msaS ack control] ++ [errS (decT code.toNat)]) ([.slice a1 (headF [⟨#[82, 83, 80]⟩, ⟨#[90, 48, 49]⟩] ⟨#[]⟩).length c1, .slice a2 (trimE List.isEmpty [wordF ack, wordF control]).length c2] ++ [.slice aZ (trimE List.isEmpty [([] : Field), ([] : Field), wordF (decT code.toNat)]).length cZ])) := SRow.push (x := errS (decT code.toNat)) HRY.out HBY.out.size HDZ.out (by first | decide | exact (by decide : (3 : Nat) ≤ 9223372036854775807)) (Nat.le_refl _) HFZ.out (n := 2) rfl hownZ' hgrowZ (by rw [Deep.nblk_alloc]; exact hatZ)
        have HBZ : Hid (Below W.heap.size W Z) := by
          have q := bjoin' HDZ.out HBY.out
          exact q.grown hgrowZ q.size (fun b hb' => (own_lt2 HRY.out.row hb').1)
        obtain ⟨aZ', cZ', eZ⟩ := HRZ.out.form
        simp only [List.cons_append, List.nil_append, List.length_cons, List.length_nil] at eZ
        subst eZ
        clear m0 m1 m2 m3 m4 m5
        obtain ⟨m0, m1, m2, m3, m4, m5⟩ := KALL.out Z HBZ.out
        clear hownZ hownZ' hgrowZ hnilZ hatZ hsZ hbaseZ
        go_wp2_with fail
        go_meet
        case rel => exact ⟨[rspS, msaS ack control, errS (decT code.toNat)], _, aZ', cZ', ack, rfl, rfl, HRZ.out, HBZ.out, HSP2.out, h0, by simp⟩
      · have e1 : (ack.toList == [65, 65]) = true := hAA
        have e1n : (!(ack.toList == [65, 65])) = false := by rw [e1]; rfl
        have e1' : ack.toList = [65, 65] := eq_of_beq e1
        have HSP2 : Hid ([rspS, msaS ack control] ++ [qakS tag ⟨#[79, 75]⟩] ++ rows.map rdtS ++ dscM pointer = mM) := by have := HSPEC.out; rw [hAA] at this; exact this
        clear hAA
        rw [e1n]
        clear e1n
        go_wp2_with fail
        go_meet
        case rel => exact ⟨[rspS, msaS ack control], _, _, _, ⟨#[79, 75]⟩, rfl, rfl, HRX.out, HBX.out, HSP2.out, by decide, by simp⟩
    case rest =>
      obtain ⟨xs, us, a8, c8, st, rfl, rfl, hR, hB, hM, hst, hxl⟩ := hcut
      obtain ⟨X, rfl⟩ : ∃ x, x = wc := ⟨_, rfl⟩
      have HRX := hide hR
      have HBX := hide hB
      have HM := hide hM
      clear hR hB hM m0 m1 m2 m3 m4 m5 HSPEC HCODE
      obtain ⟨m0, m1, m2, m3, m4, m5⟩ := KALL.out X HBX.out
      go_wp2_with fail
      refine (seg_any ⟨#[81, 65, 75]⟩ [tag, st] _ _ (words2_at X tag st h2 hst) two_le (two_sz h2 hst)).mono ?_
      rintro e Y5 ⟨uY, rfl, hRY, hbY⟩
      have hFY : FieldsAt _ Y5 uY (trimE List.isEmpty [wordF tag, wordF st]) := seg_read [tag, st] hRY two_le
      obtain ⟨aY, cY, rfl⟩ := form_at hFY
      have hcY : Below X.heap.size X Y5 := bjoin' hbY ((Below.refl _ _).alloc (Nat.le_refl _) _)
      have hdY : Below X.heap.size X (Y5.alloc (Obj.cells #[.string ⟨#[81, 65, 75]⟩, .slice aY (trimE List.isEmpty [wordF tag, wordF st]).length cY] 45)) := hcY.alloc hcY.size _
      have hownY := own_below2 HRX.out.row hdY
      have HFY : Hid (FieldsAt X.heap.size (Y5.alloc (Obj.cells #[.string ⟨#[81, 65, 75]⟩, .slice aY (trimE List.isEmpty [wordF tag, wordF st]).length cY] 45)) (.slice aY (trimE List.isEmpty [wordF tag, wordF st]).length cY) (trimE List.isEmpty [wordF tag, wordF st])) := low_at (At.kept kept_field hFY ((Below.refl _ _).alloc (Nat.le_refl _) _)) (by rw [Deep.nblk_alloc]; omega)
      have hsY := hcY.size
      have hbaseY : W.heap.size ≤ Y5.heap.size := by have := HBX.out.size; omega
      have HDY := hide hdY
      clear hFY hRY hbY hcY hdY
      go_wp2_with (first
        | (at_builtin; refine wpList_append_own_at _ rfl _ _ 31 rfl W.heap.size 45 iS (.agg #[.string ByteArray.empty, .slice none 0 0]) 2 40 Tryz.underlying31 hiS hS0 hS1 hS2 rfl (by decide) _ _ _ rfl hownY ⟨Y5.heap.size, 0, none⟩ 1 1 [.string ⟨#[81, 65, 75]⟩, .slice aY (trimE List.isEmpty [wordF tag, wordF st]).length cY] rfl rfl (new_cells2 Y5 _ _ _) (one_cells2 _ _ _ _) (by unfold maxLen; omega) (by omega) (by rw [Deep.nblk_alloc]; omega) ?_)
        | fail)
      intro vY Y hownY' hgrowY hnilY hatY
      have HRY : Hid (SRow W.heap.size Y vY (xs ++ [qakS tag st]) (us ++ [.slice aY (trimE List.isEmpty [wordF tag, wordF st]).length cY])) := SRow.push (x := qakS tag st) HRX.out HBX.out.size HDY.out (by first | decide | exact (by decide : (3 : Nat) ≤ 9223372036854775807)) (Nat.le_refl _) HFY.out (by simp) hownY' hgrowY (by rw [Deep.nblk_alloc]; exact hatY)
      have HBY : Hid (Below W.heap.size W Y) := by
        have q := bjoin' HDY.out HBX.out
        exact q.grown hgrowY q.size (fun b hb' => (own_lt2 HRX.out.row hb').1)
      obtain ⟨aY', cY', eY⟩ := HRY.out.form
      simp only [List.length_append, List.length_cons, List.length_nil] at eY
      subst eY
      obtain ⟨x3, hx3⟩ : ∃ x3, xs ++ [qakS tag st] = x3 := ⟨_, rfl⟩
      have hx3l : x3.length = xs.length + 1 := by rw [← hx3]; simp
      rw [hx3] at HRY HM
      obtain ⟨us3, hus3⟩ : ∃ us3, us ++ [.slice aY (trimE List.isEmpty [wordF tag, wordF st]).length cY] = us3 := ⟨_, rfl⟩
      rw [hus3] at HRY
      have e0 : xs.length + (0 + 1) = x3.length := by omega
      have hx5 : x3.length ≤ 5 := by omega
      rw [e0] at HRY ⊢
      clear hownY hownY' hgrowY hnilY hatY hsY hbaseY hus3 hx3 hx3l hxl e0 m0 m1 m2 m3 m4 m5 HRX
      obtain ⟨m0, m1, m2, m3, m4, m5⟩ := KALL.out Y HBY.out
      go_wp2_with fail
      go_loopg [3, 5] rows.length (fun q v3 i wr => ∃ (k : Nat) (us : List Value) (a8 : Option Addr) (c8 : Nat), k ≤ rows.length ∧ q = rows.length - k ∧ i = .int .i64 (k : Int) ∧ v3 = .slice a8 (x3.length + k) c8 ∧ SRow W.heap.size wr (.slice a8 (x3.length + k) c8) (x3 ++ (rows.take k).map rdtS) us ∧ Below W.heap.size W wr)
      case atStart => exact ⟨0, us3, _, _, Nat.zero_le _, rfl, rfl, rfl, by simpa using HRY.out, HBY.out⟩
      case round =>
        obtain ⟨k, us, a8, c8, hk, rfl, rfl, rfl, hR, hB⟩ := hrel
        obtain ⟨X, rfl⟩ : ∃ x, x = wr := ⟨_, rfl⟩
        have HRX := hide hR
        have HBX := hide hB
        clear hR hB m0 m1 m2 m3 m4 m5
        obtain ⟨m0, m1, m2, m3, m4, m5⟩ := KALL.out X HBX.out
        by_cases hlt : k < rows.length
        · have hki : (k : Int) < (rows.length : Int) := by omega
          obtain ⟨a', cap', e', hc⟩ := (KROW.out X HBX.out).form
          injection e' with ea eb ec
          subst ea ec
          obtain ⟨b, off, rfl, _, hbl, hcell, _⟩ := hc k hlt
          clear hc
          rw [Nat.mul_one] at hcell
          obtain ⟨x, hx⟩ : ∃ x, rows[k] = x := ⟨_, rfl⟩
          rw [hx] at hcell
          have hxz : x.size ≤ 1048576 := by rw [← hx]; exact HROW.out.2 _ (List.getElem_mem hlt)
          have HTK : Hid ((rows.take (k + 1)).map rdtS = (rows.take k).map rdtS ++ [rdtS x]) := by show _ = _; rw [List.take_succ_eq_append_getElem hlt, List.map_append, hx]; rfl
          have hkl : (rows.take k).length = k := by rw [List.length_take]; omega
          obtain ⟨xk, hxk⟩ : ∃ xk, x3 ++ (rows.take k).map rdtS = xk := ⟨_, rfl⟩
          have hxkl : xk.length = x3.length + k := by rw [← hxk, List.length_append, List.length_map, hkl]
          have HNX : Hid (xk ++ [rdtS x] = x3 ++ (rows.take (k + 1)).map rdtS) := by show _ = _; rw [HTK.out, ← hxk, List.append_assoc]
          rw [hxk] at HRX
          clear hx hxk HTK hkl
          go_wp2_with fail
          refine (seg_any ⟨#[82, 68, 84]⟩ [x] _ _ (word1_at X x hxz) one_le (one_sz hxz)).mono ?_
          rintro e Y5 ⟨uY, rfl, hRY, hbY⟩
          have hFY : FieldsAt _ Y5 uY (trimE List.isEmpty [wordF x]) := seg_read [x] hRY one_le
          obtain ⟨aY, cY, rfl⟩ := form_at hFY
          have hcY : Below X.heap.size X Y5 := bjoin' hbY ((Below.refl _ _).alloc (Nat.le_refl _) _)
          have hdY : Below X.heap.size X (Y5.alloc (Obj.cells #[.string ⟨#[82, 68, 84]⟩, .slice aY (trimE List.isEmpty [wordF x]).length cY] 45)) := hcY.alloc hcY.size _
          have hownY : _ := own_below2 HRX.out.row hdY
          rw [hxkl] at hownY
          have HFY : Hid (FieldsAt X.heap.size (Y5.alloc (Obj.cells #[.string ⟨#[82, 68, 84]⟩, .slice aY (trimE List.isEmpty [wordF x]).length cY] 45)) (.slice aY (trimE List.isEmpty [wordF x]).length cY) (trimE List.isEmpty [wordF x])) := low_at (At.kept kept_field hFY ((Below.refl _ _).alloc (Nat.le_refl _) _)) (by rw [Deep.nblk_alloc]; omega)
          have hsY := hcY.size
          have hbaseY : W.heap.size ≤ Y5.heap.size := by have := HBX.out.size; omega
          have HDY := hide hdY
          clear hFY hRY hbY hcY hdY
          go_wp2_with (first
            | (at_builtin; refine wpList_append_own_at _ rfl _ _ 31 rfl W.heap.size 45 iS (.agg #[.string ByteArray.empty, .slice none 0 0]) 2 40 Tryz.underlying31 hiS hS0 hS1 hS2 rfl (by decide) _ _ _ rfl hownY ⟨Y5.heap.size, 0, none⟩ 1 1 [.string ⟨#[82, 68, 84]⟩, .slice aY (trimE List.isEmpty [wordF x]).length cY] rfl rfl (new_cells2 Y5 _ _ _) (one_cells2 _ _ _ _) (by unfold maxLen; omega) (by omega) (by rw [Deep.nblk_alloc]; omega) ?_)
            | fail)
          intro vY Y hownY' hgrowY hnilY hatY
          have HRY : Hid (SRow W.heap.size Y vY (xk ++ [rdtS x]) (us ++ [.slice aY (trimE List.isEmpty [wordF x]).length cY])) := SRow.push (x := rdtS x) HRX.out HBX.out.size HDY.out (by first | decide | exact (by decide : (3 : Nat) ≤ 9223372036854775807)) (Nat.le_refl _) HFY.out (n := x3.length + k) hxkl.symm hownY' hgrowY (by rw [Deep.nblk_alloc]; exact hatY)
          have HBY : Hid (Below W.heap.size W Y) := by
            have q := bjoin' HDY.out HBX.out
            exact q.grown hgrowY q.size (fun b hb' => (own_lt2 HRX.out.row hb').1)
          obtain ⟨aY', cY', eY⟩ := HRY.out.form
          simp only [List.length_append, List.length_cons, List.length_nil, hxkl] at eY
          subst eY
          clear m0 m1 m2 m3 m4 m5 hownY hownY' hgrowY hnilY hatY hsY hbaseY
          obtain ⟨m0, m1, m2, m3, m4, m5⟩ := KALL.out Y HBY.out
          have e0 : x3.length + k + (0 + 1) = x3.length + (k + 1) := by omega
          rw [HNX.out, e0] at HRY
          rw [e0]
          clear e0
          go_wp2_with fail
          go_roundg (rows.length - (k + 1))
          case measure => omega
          case rel => exact ⟨k + 1, _, _, _, by omega, rfl, by go_num, rfl, HRY.out, HBY.out⟩
        · have hki : ¬ (k : Int) < (rows.length : Int) := by omega
          obtain rfl : k = rows.length := by omega
          obtain ⟨x4, hx4⟩ : ∃ x4, x3 ++ rows.map rdtS = x4 := ⟨_, rfl⟩
          have hx4l : x4.length = x3.length + rows.length := by rw [← hx4]; simp
          rw [List.take_length, hx4] at HRX
          rw [hx4] at HM
          have hx4m : x4.length ≤ 205 := by omega
          rw [← hx4l] at HRX ⊢
          clear hx4 hx4l
          go_upto_if 60 with fail
          go_cut [3] (fun v3 wx => ∃ (us : List Value) (a9 : Option Addr) (c9 : Nat), v3 = .slice a9 mM.length c9 ∧ SRow W.heap.size wx (.slice a9 mM.length c9) mM us ∧ Below W.heap.size W wx)
          case first =>
            by_cases hp0 : (0 : Int) < (pointer.size : Int)
            · have HMM : Hid (x4 ++ [dscS pointer] = mM) := by have := HM.out; unfold dscM at this; rw [if_neg (by omega)] at this; exact this
              go_wp2_with fail
              refine (seg_any ⟨#[68, 83, 67]⟩ [pointer] _ _ (word1_at X pointer h3) one_le (one_sz h3)).mono ?_
              rintro e Y5 ⟨uY, rfl, hRY, hbY⟩
              have hFY : FieldsAt _ Y5 uY (trimE List.isEmpty [wordF pointer]) := seg_read [pointer] hRY one_le
              obtain ⟨aY, cY, rfl⟩ := form_at hFY
              have hcY : Below X.heap.size X Y5 := bjoin' hbY ((Below.refl _ _).alloc (Nat.le_refl _) _)
              have hdY : Below X.heap.size X (Y5.alloc (Obj.cells #[.string ⟨#[68, 83, 67]⟩, .slice aY (trimE List.isEmpty [wordF pointer]).length cY] 45)) := hcY.alloc hcY.size _
              have hownY := own_below2 HRX.out.row hdY
              have HFY : Hid (FieldsAt X.heap.size (Y5.alloc (Obj.cells #[.string ⟨#[68, 83, 67]⟩, .slice aY (trimE List.isEmpty [wordF pointer]).length cY] 45)) (.slice aY (trimE List.isEmpty [wordF pointer]).length cY) (trimE List.isEmpty [wordF pointer])) := low_at (At.kept kept_field hFY ((Below.refl _ _).alloc (Nat.le_refl _) _)) (by rw [Deep.nblk_alloc]; omega)
              have hsY := hcY.size
              have hbaseY : W.heap.size ≤ Y5.heap.size := by have := HBX.out.size; omega
              have HDY := hide hdY
              clear hFY hRY hbY hcY hdY
              go_wp2_with (first
                | (at_builtin; refine wpList_append_own_at _ rfl _ _ 31 rfl W.heap.size 45 iS (.agg #[.string ByteArray.empty, .slice none 0 0]) 2 40 Tryz.underlying31 hiS hS0 hS1 hS2 rfl (by decide) _ _ _ rfl hownY ⟨Y5.heap.size, 0, none⟩ 1 1 [.string ⟨#[68, 83, 67]⟩, .slice aY (trimE List.isEmpty [wordF pointer]).length cY] rfl rfl (new_cells2 Y5 _ _ _) (one_cells2 _ _ _ _) (by unfold maxLen; omega) (by omega) (by rw [Deep.nblk_alloc]; omega) ?_)
                | fail)
              intro vY Y hownY' hgrowY hnilY hatY
              have HRY : Hid (SRow W.heap.size Y vY (x4 ++ [dscS pointer]) (us ++ [.slice aY (trimE List.isEmpty [wordF pointer]).length cY])) := SRow.push (x := dscS pointer) HRX.out HBX.out.size HDY.out (by first | decide | exact (by decide : (3 : Nat) ≤ 9223372036854775807)) (Nat.le_refl _) HFY.out (by simp) hownY' hgrowY (by rw [Deep.nblk_alloc]; exact hatY)
              have HBY : Hid (Below W.heap.size W Y) := by
                have q := bjoin' HDY.out HBX.out
                exact q.grown hgrowY q.size (fun b hb' => (own_lt2 HRX.out.row hb').1)
              obtain ⟨aY', cY', eY⟩ := HRY.out.form
              simp only [List.length_append, List.length_cons, List.length_nil] at eY
              subst eY
              have e0 : x4.length + (0 + 1) = mM.length := by rw [← HMM.out]; simp
              rw [HMM.out, e0] at HRY
              rw [e0]
              clear hownY hownY' hgrowY hnilY hatY hsY hbaseY e0
              go_wp2_with fail
              go_meet
              case rel => exact ⟨_, _, _, rfl, HRY.out, HBY.out⟩
            · have HMM : Hid (x4 = mM) := by have := HM.out; unfold dscM at this; rw [if_pos (by omega), List.append_nil] at this; exact this
              rw [HMM.out] at HRX ⊢
              go_wp2_with fail
              go_meet
              case rel => exact ⟨_, _, _, rfl, HRX.out, HBX.out⟩
          case rest =>
            obtain ⟨us9, a9, c9, rfl, hR, hB⟩ := hcut
            obtain ⟨X9, rfl⟩ : ∃ x, x = wc := ⟨_, rfl⟩
            have hml : mM.length ≤ 1048576 := by have := HSZ.out; unfold msgSz lenSum at this; omega
            obtain ⟨X10, hX10⟩ : ∃ X10, X9.alloc (Obj.cells #[.slice a9 mM.length c9] 33) = X10 := ⟨_, rfl⟩
            have hb10 : Below X9.heap.size X9 X10 := by rw [← hX10]; exact (Below.refl _ _).alloc (Nat.le_refl _) _
            have hs10 : X10.heap.size = X9.heap.size + 1 := by rw [← hX10]; simp
            have n0 : X10.cell? ⟨X9.heap.size, 0, none⟩ = some (.slice a9 mM.length c9) := by rw [← hX10]; simp
            have HSEG := hide ((hR.kept hb10).segs (by omega))
            have HR10 := hide (hR.kept hb10)
            have HB10 := hide (bjoin' hb10 hB)
            clear m0 m1 m2 m3 m4 m5 hR hB hb10
            go_wp2_with fail
            refine (messageOk_any mM _ X10 HSZ.out HSEG.out).mono ?_
            rintro e X11 ⟨rfl, hb11⟩
            have HB11 := hide (bjoin' hb11 HB10.out)
            obtain ⟨r0, rf, rl⟩ := KRES.out X11 HB11.out
            have n1 : X11.cell? ⟨X9.heap.size, 0, none⟩ = some (.slice a9 mM.length c9) := (hb11.cell (p := ⟨X9.heap.size, 0, none⟩) (by rw [hs10]; simp)).trans n0
            have HBF : Hid (∀ x, Below w.heap.size w (X11.setCell ⟨w.heap.size + 1, 0, none⟩ x)) := fun x => (bjoin' HB11.out HBW.out).setCell (p := ⟨w.heap.size + 1, 0, none⟩) (Nat.le_succ _) x
            have HR11 := hide (HR10.out.kept hb11)
            have HEND : Hid (∀ x, SegsAt 0 (X11.setCell ⟨w.heap.size + 1, 0, none⟩ x) (.slice a9 mM.length c9) mM) := fun x => by
              exact At.mono mono_seg (HR11.out.above (by omega) (by rw [Deep.nblk_setCell]; exact Nat.le_refl _) fun b hb => Deep.blk_setCell_other _ ⟨w.heap.size + 1, 0, none⟩ _ b (by have := HRL.out; dsimp only; omega)) (Nat.zero_le _)
            clear hb11 n0 hs10 hX10
            have hbb : msgB mM = true ∨ msgB mM = false := by cases msgB mM; exact .inr rfl; exact .inl rfl
            rcases hbb with hbb | hbb
            · have HOG : Hid (onlyGood mM = mM) := by unfold onlyGood; rw [hbb]; exact rfl
              rw [hbb]
              clear hbb
              go_wp2_with fail
              exact bodyPost_ret (v := .agg #[.slice a9 mM.length c9]) (by simp [results, Tryz.results16, go_sem, r0, rl]) rfl (by rw [HOG.out]; exact ⟨_, rfl, HEND.out _, HBF.out _⟩)
            · have HOG : Hid (onlyGood mM = []) := by unfold onlyGood; rw [hbb]; exact rfl
              rw [hbb]
              clear hbb
              go_wp2_with fail
              exact bodyPost_ret (v := .agg #[.slice none 0 0]) (by simp [results, Tryz.results16, go_sem, r0, rl]) rfl (by rw [HOG.out]; exact ⟨_, rfl, ⟨by simp, .inl ⟨_, _, rfl, rfl⟩⟩, HBF.out _⟩)

theorem writeRplS_any (r : Rpl) (a : Option Addr) (cap : Nat) (w : World) {lo : Nat} (h0 : r.ack.size ≤ 1048576) (h1 : r.control.size ≤ 1048576) (h2 : r.tag.size ≤ 1048576) (h3 : r.pointer.size ≤ 1048576) (hv : StrsAt lo w (.slice a r.rows.length cap) r.rows) :
    Calls Tryz.prog 16 #[rplV r (.slice a r.rows.length cap)] w (ReadPost w (rplM r)) := by
  unfold rplM
  cases hok : okRpl r
  · exact writeRplS_bad r a cap w (by omega) (by omega) (by omega) hv hok
  · exact writeRplS_good r a cap w h0 h1 h2 h3 hv hok
end Go.Proofs.YtfcmhnfdbobnlaaGreatDoor.Msg
