import Derived.Test.YtjpdgcodjnnljaaMarkMsgwithListBuf
import Derived.Test.YtjpdgcodjnnljaaParseCutwithMsgTo2
namespace Go.Proofs.Ytjpdgcodjnnljaa.Msg
open Go.ChangeShapes Go.WideShapes Go.ChangeAt Go.RowKit
set_option linter.unusedVariables false
set_option linter.unusedSimpArgs false

theorem own_below {base : Nat} {e : TypeId} {w w' : World} {v : Value} {n : Nat} {vs : List Value} (h : w.ownsRow base e 1 v n vs) (hb : Below w.heap.size w w') : w'.ownsRow base e 1 v n vs := by
  obtain ⟨hl, ⟨rfl, h0⟩ | ⟨g, cap, cur, rfl, hg, hs, rest⟩⟩ := h
  · exact ⟨hl, .inl ⟨rfl, h0⟩⟩
  · refine ⟨hl, .inr ⟨g, cap, cur, rfl, hg, ?_, rest⟩⟩
    rw [hb.block g (by rw [Array.getElem?_eq_some_iff] at hs; exact hs.1)]
    exact hs
theorem keepN_snoc {α : Type} (p : α → Bool) (xs : List α) (k : Nat) (hk : k < xs.length) : keepN p (xs.take (k + 1)) = if p xs[k] = true then keepN p (xs.take k) else k + 1 := by
  have hle := keepN_le p (xs.take k)
  rw [List.length_take] at hle
  have hlen : (xs.take (k + 1)).length = k + 1 := by rw [List.length_take]; omega
  have key : ∀ (ys : List α) (j : Nat) (h : j < ys.length), keepN p ys ≤ j → p ys[j] = true := by
    intro ys
    induction ys with
    | nil => intro j h; simp at h
    | cons y ys ih =>
      intro j h hj
      cases hkn : keepN p ys with
      | zero =>
        cases j with
        | zero =>
          by_cases hy : p y = true
          · simpa using hy
          · have e : keepN p (y :: ys) = 1 := by simp [keepN, hkn, hy]
            omega
        | succ j => exact ih j (by simp at h; omega) (by omega)
      | succ q =>
        have e : keepN p (y :: ys) = q + 2 := by simp [keepN, hkn]
        cases j with
        | zero => omega
        | succ j => exact ih j (by simp at h; omega) (by omega)
  have last : ∀ (ys : List α) (h : keepN p ys - 1 < ys.length), 0 < keepN p ys → p ys[keepN p ys - 1] = false := by
    intro ys
    induction ys with
    | nil => intro h h0; simp [keepN] at h0
    | cons y ys ih =>
      intro h h0
      cases hkn : keepN p ys with
      | zero =>
        by_cases hy : p y = true
        · simp [keepN, hkn, hy] at h0
        · have e : keepN p (y :: ys) = 1 := by simp [keepN, hkn, hy]
          simp only [e]
          simpa using hy
      | succ q =>
        have e : keepN p (y :: ys) = q + 2 := by simp [keepN, hkn]
        have hq : q < ys.length := by have := keepN_le p ys; omega
        have := ih (by rw [hkn]; simpa using hq) (by omega)
        simp only [hkn] at this
        simp only [e]
        simpa using this
  by_cases hp : p xs[k] = true
  · rw [if_pos hp]
    apply keepN_is
    · omega
    · intro j hj hge
      rw [hlen] at hj
      rw [List.getElem_take]
      by_cases e : j = k
      · subst e; exact hp
      · have := key (xs.take k) j (by rw [List.length_take]; omega) hge
        rwa [List.getElem_take] at this
    · intro h h0
      have h' : keepN p (xs.take k) - 1 < (xs.take k).length := by rw [List.length_take]; omega
      have := last (xs.take k) h' h0
      rw [List.getElem_take] at this ⊢
      exact this
  · rw [if_neg hp]
    apply keepN_is
    · omega
    · intro j hj hge; omega
    · intro h h0
      rw [List.getElem_take]
      simpa using hp

def repsL (c1 c2 : UInt8) (l : List UInt8) : List (List (List UInt8)) := trimE List.isEmpty ((cutL c2 l).map (compsL c1))
def repT (r : List (List UInt8)) : Rep := r.map txt
theorem info_facts {P : Program} {e : TypeId} {z : Value} {sz bytes : Nat} (h : (P.info? e).map (fun i => (i.zero, i.size, i.bytes)) = some (some z, sz, bytes)) : ∃ i, P.info? e = some i ∧ i.zero = some z ∧ i.size = sz ∧ i.bytes = bytes := by
  cases hi : P.info? e with
  | none => rw [hi] at h; cases h
  | some i =>
    rw [hi] at h
    simp only [Option.map_some, Option.some.injEq, Prod.mk.injEq] at h
    exact ⟨i, rfl, h.1, h.2.1, h.2.2⟩
theorem one_slice (a : Option Addr) (n c : Nat) : ∀ u ∈ [Value.slice a n c], u.oneCell' = true := by
  intro u hu
  simp at hu
  subst hu
  rfl

end Go.Proofs.Ytjpdgcodjnnljaa.Msg

namespace Go.Proofs.Ytjpdgcodjnnljaa.Msg
open Go.ChangeShapes Go.WideShapes Go.ChangeAt Go.RowKit
set_option linter.unusedVariables false
set_option linter.unusedSimpArgs false

/-- the lists that a field, a segment, a message hold are short -/
def FieldFits (x : Field) : Prop := x.length ≤ 1048576 ∧ ∀ i (h : i < x.length), x[i].length ≤ 1048576
def FieldsFit (x : List Field) : Prop := x.length ≤ 1048576 ∧ ∀ i (h : i < x.length), FieldFits x[i]
def MsgFits (x : List Seg) : Prop := x.length ≤ 1048576 ∧ ∀ i (h : i < x.length), FieldsFit x[i].fields

set_option maxHeartbeats 400000 in
theorem toField_any (x : Field) (v : Value) (w : World) (hn : FieldFits x) {lo : Nat} (hv : RepsAt lo w v x) :
    Calls Try.prog 138 #[.agg #[v]] w fun e w' => ∃ u, e = .returned (.agg #[u]) ∧ RepsAt w.heap.size w' u x ∧ Below w.heap.size w w' := by
  have hb0 := (((Below.refl w.heap.size w).alloc (Nat.le_refl _) (Obj.cells #[v] 182)).alloc (by simp) (Obj.cells #[.slice none 0 0] 114)).alloc (by simp; omega) (Obj.cells #[.slice none 0 0] 114)
  have hv' := At.kept kept_rep hv hb0
  go_enter Try.func138, Try.ntmps138
  go_wp2_with fail
  refine (toReps_any x v _ hn.1 hn.2 hv').mono ?_
  rintro e w4 ⟨u, rfl, hu, hb⟩
  obtain ⟨hc, hf⟩ := bcells hb
  have hz : w.heap.size + 2 < w4.heap.size := by have := hb.size; simp at this; omega
  obtain ⟨a, cap, rfl, _⟩ := hu.form
  go_wp2_with fail
  refine bodyPost_ret (v := .agg #[.slice a x.length cap]) (by simp [results, Try.results138, go_sem, hc, hz]) rfl ⟨_, rfl, ?_, ?_⟩
  · have hu2 : RepsAt (w.heap.size + 3) w4 (.slice a x.length cap) x := by simpa using hu
    exact At.mono mono_rep (At.same kept_rep hu2 (((Same.refl _ _).setCell (by omega) _).setCell (by omega) _)) (by omega)
  · exact ((hb0.trans (hb.mono (by simp; omega))).setCell (by simp; omega) _).setCell (by simp) _

theorem fields_of_filling {w w1 : World} {t : TypeId} {xs : List Field} {cap : Nat} (hl : xs.length ≤ 9223372036854775807) (h : Filling RepsAt w t xs xs.length w1) :
    FieldsAt w.heap.size w1 (.slice (some ⟨w.heap.size, 0, none⟩) xs.length cap) xs := by
  obtain ⟨⟨f, hrow, hel⟩, hb⟩ := h
  exact ⟨hl, .inr ⟨_, 0, cap, rfl, ⟨Nat.le_refl _, hrow.lt⟩, fun i hi => ⟨f i, by have := hrow.cell hi; simpa using this, At.mono mono_rep (hel i hi hi) (by omega)⟩⟩⟩

theorem info_Field : (Try.prog.info? 114).map (fun i => (i.zero, i.size, i.bytes)) = some (some (.agg #[.slice none 0 0]), 1, 24) := by kernel_rfl

set_option maxHeartbeats 400000 in
theorem toFields_any (xs : List Field) (v : Value) (w : World) (hn : xs.length ≤ 1048576) (hne : ∀ i (h : i < xs.length), FieldFits xs[i]) {lo : Nat} (hv : FieldsAt lo w v xs) :
    Calls Try.prog 122 #[v] w fun e w' => ∃ u, e = .returned u ∧ FieldsAt w.heap.size w' u xs ∧ Below w.heap.size w w' := by
  have hl := hv.1
  obtain ⟨a, cap, rfl, hc⟩ := hv.form
  clear hv
  have HN := hide hne
  clear hne
  have hmk := make_rows (P := Try.prog) 109 114 (.agg #[.slice none 0 0]) #[.slice none 0 0] 1 24 Try.underlying109 info_Field rfl xs.length (by omega) (by omega)
  have hrow0 : Filling RepsAt w 114 xs 0 (w.alloc (Obj.cells (madeCells #[Value.slice none 0 0] xs.length) 114)) :=
    ⟨⟨_, made_row w #[Value.slice none 0 0] xs.length 114 (by decide), fun j _ h => absurd h (by omega)⟩, (Below.refl _ _).alloc (Nat.le_refl _) _⟩
  go_enter Try.func122, Try.ntmps122
  go_wp2
  go_loopw [4] (fun i w1 => ∃ k : Nat, k ≤ xs.length ∧ i = .int .i64 k ∧ Filling RepsAt w 114 xs k w1) (fun i _ => xs.length - (intOf i).toNat)
  case atStart => exact ⟨0, Nat.zero_le _, rfl, hrow0⟩
  case round =>
    obtain ⟨k, hk, rfl, hfil⟩ := hrel
    by_cases hlt : k < xs.length
    · obtain ⟨b, off, rfl, _, hbl, ve, hcell, hel⟩ := hc k hlt
      have hb := hfil.2
      have h1 : wr.cell? ⟨b, off + k, none⟩ = some ve := by rw [hb.cell (p := ⟨b, off + k, none⟩) hbl]; simpa using hcell
      have hel' := At.kept kept_rep hel hb
      have HC := hide hc
      clear hc hcell
      obtain ⟨f, hrow, _⟩ := hfil.1
      have h2 := hrow.cell hlt
      have h3 := hrow.frozen k
      have hB := hrow.lt
      go_wp2_with fail
      refine (toField_any xs[k] ve _ (HN.out k hlt) hel').mono ?_
      rintro e w2 ⟨u, rfl, hu, hb2⟩
      have h4 : w2.cell? ⟨w.heap.size, k, none⟩ = some (f k) := by rw [hb2.cell (p := ⟨w.heap.size, k, none⟩) hB]; exact h2
      have h5 : w2.frozen? ⟨w.heap.size, k, none⟩ = false := by rw [hb2.frozen (p := ⟨w.heap.size, k, none⟩) hB]; exact h3
      obtain ⟨a2, cap2, rfl, _⟩ := hu.form
      have hfin := filling_step (A := RepsAt) (fun _ _ _ _ _ h s => At.same kept_rep h s) (fun _ _ _ _ _ h s => At.mono mono_rep h s) hfil hb2 hlt hu
      go_wp2_with fail
      go_roundw
      case rel => exact ⟨k + 1, by omega, by go_num, hfin⟩
      case measure => simp [intOf]; omega
    · obtain rfl : k = xs.length := by omega
      go_wp2
      go_ret
      exact ⟨_, rfl, fields_of_filling hl hfil, hfil.2⟩

set_option maxHeartbeats 400000 in
theorem toSeg_any (x : Seg) (v : Value) (w : World) (hn : FieldsFit x.fields) {lo : Nat} (hv : FieldsAt lo w v x.fields) :
    Calls Try.prog 100 #[.agg #[.string x.name, v]] w fun e w' => ∃ u, e = .returned (.agg #[.string x.name, u]) ∧ FieldsAt w.heap.size w' u x.fields ∧ Below w.heap.size w w' := by
  have hb0 := (((Below.refl w.heap.size w).alloc (Nat.le_refl _) (Obj.cells #[.string x.name, v] 143)).alloc (by simp) (Obj.cells #[.string ⟨#[]⟩, .slice none 0 0] 111)).alloc (by simp; omega) (Obj.cells #[.string x.name, .slice none 0 0] 111)
  have hv' := At.kept kept_field hv hb0
  go_enter Try.func100, Try.ntmps100
  go_wp2_with fail
  refine (toFields_any x.fields v _ hn.1 hn.2 hv').mono ?_
  rintro e w4 ⟨u, rfl, hu, hb⟩
  obtain ⟨hc, hf⟩ := bcells hb
  have hz : w.heap.size + 2 < w4.heap.size := by have := hb.size; simp at this; omega
  obtain ⟨a, cap, rfl, _⟩ := hu.form
  go_wp2_with fail
  refine bodyPost_ret (v := .agg #[.string x.name, .slice a x.fields.length cap]) (by simp [results, Try.results100, go_sem, hc, hz]) rfl ⟨_, rfl, ?_, ?_⟩
  · have hu2 : FieldsAt (w.heap.size + 3) w4 (.slice a x.fields.length cap) x.fields := by simpa using hu
    exact At.mono mono_field (At.same kept_field hu2 ((((Same.refl _ _).setCell (by omega) _).setCell (by omega) _).setCell (by omega) _)) (by omega)
  · exact (((hb0.trans (hb.mono (by simp; omega))).setCell (by simp; omega) _).setCell (by simp) _).setCell (by simp) _
end Go.Proofs.Ytjpdgcodjnnljaa.Msg
