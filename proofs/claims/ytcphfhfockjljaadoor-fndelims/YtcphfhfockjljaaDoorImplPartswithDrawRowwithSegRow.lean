import Derived.Test.YtcphfhfockjljaaDoorImplShort3withImplNewwithImplWord3
import Derived.Test.YtcphfhfockjljaaDoorImplSegCut
import Derived.Test.YtcphfhfockjljaaDoorDrawKitwithTrimBufwithDrawComp
import Derived.Test.YtcphfhfockjljaaDoorFlatKitwithFlatAppwithBufKit
namespace Go.Proofs.YtcphfhfockjljaaDoor.Msg
open Go.ChangeShapes Go.WideShapes Go.ChangeAt Go.RowKit
set_option linter.unusedVariables false
set_option linter.unusedSimpArgs false

/-- values that calls have given one behind the other, each in blocks of its own -/
def Parts {α : Type} (O : World → Value → α → List Nat → Prop) (base : Nat) (w : World) (vs : List Value) (xs : List α) (bss : List (List Nat)) : Prop :=
  vs.length = xs.length ∧ bss.length = xs.length ∧ bss.flatten.Nodup ∧ ∀ i (h : i < xs.length) (h1 : i < vs.length) (h2 : i < bss.length), O w vs[i] xs[i] bss[i] ∧ ∀ b ∈ bss[i], base ≤ b ∧ b < w.heap.size
def KeepO {α : Type} (O : World → Value → α → List Nat → Prop) : Prop := ∀ w w' v x bs, O w v x bs → w.heap.size ≤ w'.heap.size → (∀ d ∈ bs, w'.heap[d]? = w.heap[d]?) → O w' v x bs
theorem keep_reps : KeepO OReps := fun _ _ _ _ _ h s d => OAt.kept keptO_rep h s d
theorem keep_fields : KeepO OFields := fun _ _ _ _ _ h s d => OAt.kept keptO_field h s d
theorem Parts.nil {α : Type} (O : World → Value → α → List Nat → Prop) (base : Nat) (w : World) : Parts O base w [] [] [] := ⟨rfl, rfl, by simp, fun i h => absurd h (by simp)⟩
theorem Parts.kept {α : Type} {O : World → Value → α → List Nat → Prop} (K : KeepO O) {base : Nat} {w w' : World} {vs : List Value} {xs : List α} {bss : List (List Nat)} (h : Parts O base w vs xs bss) (hb : Below w.heap.size w w') : Parts O base w' vs xs bss := by
  obtain ⟨h1, h2, h3, h4⟩ := h
  refine ⟨h1, h2, h3, fun i hi g1 g2 => ?_⟩
  obtain ⟨k1, k2⟩ := h4 i hi g1 g2
  exact ⟨K _ _ _ _ _ k1 hb.size fun d hd => hb.block d (k2 d hd).2, fun b hb' => ⟨(k2 b hb').1, Nat.lt_of_lt_of_le (k2 b hb').2 hb.size⟩⟩
theorem Parts.pushAny {α : Type} {O : World → Value → α → List Nat → Prop} (K : KeepO O) {base : Nat} {w w' : World} {vs : List Value} {xs : List α} {bss : List (List Nat)} {u : Value} {x : α} {bs : List Nat} (h : Parts O base w vs xs bss) (hb : Below w.heap.size w w')
    (hu : O w' u x bs) (hnd : bs.Nodup) (hf : ∀ b ∈ bs, base ≤ b ∧ b < w'.heap.size ∧ b ∉ bss.flatten) : Parts O base w' (vs ++ [u]) (xs ++ [x]) (bss ++ [bs]) := by
  obtain ⟨h1, h2, h3, h4⟩ := h
  refine ⟨by simp [h1], by simp [h2], ?_, fun i hi g1 g2 => ?_⟩
  · rw [List.flatten_append, List.flatten_cons, List.flatten_nil, List.append_nil, List.nodup_append]
    exact ⟨h3, hnd, fun a ha c hc e => (hf c hc).2.2 (e ▸ ha)⟩
  · by_cases hlt : i < xs.length
    · obtain ⟨k1, k2⟩ := h4 i hlt (by omega) (by omega)
      have a1 : (vs ++ [u])[i] = vs[i]'(by omega) := List.getElem_append_left (by omega)
      have a2 : (bss ++ [bs])[i] = bss[i]'(by omega) := List.getElem_append_left (by omega)
      have a3 : (xs ++ [x])[i] = xs[i] := List.getElem_append_left hlt
      rw [a1, a2, a3]
      exact ⟨K _ _ _ _ _ k1 hb.size fun d hd => hb.block d (k2 d hd).2, fun b hb' => ⟨(k2 b hb').1, Nat.lt_of_lt_of_le (k2 b hb').2 hb.size⟩⟩
    · have e1 : i = xs.length := by simp at hi; omega
      subst e1
      have e2 : (vs ++ [u])[xs.length] = u := by rw [List.getElem_append_right (by omega)]; simp [h1]
      have e3 : (bss ++ [bs])[xs.length] = bs := by rw [List.getElem_append_right (by omega)]; simp [h2]
      have e4 : (xs ++ [x])[xs.length] = x := by rw [List.getElem_append_right (Nat.le_refl _)]; simp
      rw [e2, e3, e4]
      exact ⟨hu, fun b hb' => ⟨(hf b hb').1, (hf b hb').2.1⟩⟩
theorem Parts.push {α : Type} {O : World → Value → α → List Nat → Prop} (K : KeepO O) {base : Nat} {w w' : World} {vs : List Value} {xs : List α} {bss : List (List Nat)} {u : Value} {x : α} {bs : List Nat} (h : Parts O base w vs xs bss) (hbase : base ≤ w.heap.size) (hb : Below w.heap.size w w')
    (hu : O w' u x bs) (hnd : bs.Nodup) (hf : ∀ b ∈ bs, w.heap.size ≤ b ∧ b < w'.heap.size) : Parts O base w' (vs ++ [u]) (xs ++ [x]) (bss ++ [bs]) :=
  Parts.pushAny K h hb hu hnd fun b hb' => ⟨Nat.le_trans hbase (hf b hb').1, (hf b hb').2, fun hm => by
    obtain ⟨h1, h2, h3, h4⟩ := h
    rw [List.mem_flatten] at hm
    obtain ⟨l, hl, ha⟩ := hm
    obtain ⟨i, hi, rfl⟩ := List.getElem_of_mem hl
    have := ((h4 i (by omega) (by omega) hi).2 b ha).2
    have := (hf b hb').1
    omega⟩
/-- an element with no memory of its own -/
theorem Parts.push0 {α : Type} {O : World → Value → α → List Nat → Prop} (K : KeepO O) {base : Nat} {w : World} {vs : List Value} {xs : List α} {bss : List (List Nat)} {u : Value} {x : α} (h : Parts O base w vs xs bss) (hbase : base ≤ w.heap.size)
    (hu : O w u x []) : Parts O base w (vs ++ [u]) (xs ++ [x]) (bss ++ [[]]) := Parts.push K h hbase (Below.refl _ _) hu (by simp) (by simp)
theorem Parts.lens {base : Nat} {w : World} {vs : List Value} {xs : List Field} {bss : List (List Nat)} (h : Parts OReps base w vs xs bss) : Lens vs xs :=
  lens_rep (e := 0) (base := base) (w := w) h.1 h.2.1 fun i hi g1 g2 => (h.2.2.2 i hi g1 g2).1

/-- a segment out of fields that were given -/
theorem newSegO (name : ByteArray) (vs : List Value) (xs : List Field) (bss : List (List Nat)) (base : Nat) (w : World) (hbase : base ≤ w.heap.size) (hP : Parts OReps base w vs xs bss) (hp : 0 < vs.length) (hl : vs.length ≤ 40001) (hz : ∀ x ∈ xs, x.length ≤ 1048576) (n : Nat) (hn : n = vs.length) :
    Calls Tryd.prog 51 #[.string name, .slice (some ⟨w.heap.size, 0, none⟩) n n] (w.alloc (.cells vs.toArray 47)) fun e w' => ∃ u, e = .returned (.agg #[.string name, u]) ∧ ∃ bs, OFields w' u (trimE List.isEmpty xs) bs ∧ bs.Nodup ∧ (∀ b ∈ bs, base ≤ b ∧ b < w'.heap.size ∧ (w.heap.size ≤ b ∨ b ∈ bss.flatten)) ∧ Below w.heap.size w w' := by
  subst hn
  have hb1 := (Below.refl w.heap.size w).alloc (Nat.le_refl _) (.cells vs.toArray 47)
  have hrow : (w.alloc (.cells vs.toArray 47)).ownsRow w.heap.size 47 1 (.slice (some ⟨w.heap.size, 0, none⟩) vs.length vs.length) vs.length vs := by
    have h := World.ownsRow_lit (base := w.heap.size) (e := 47) (size := 1) w vs.toArray vs.length (Nat.le_refl _) (by unfold maxLen; omega) (by simp)
    simpa using h
  refine (newSegment_any (β := Rep) name xs vs w.heap.size _ _ hrow hP.lens (fun h => by omega) hl (fun x hx => by have := hz x hx; omega)).mono ?_
  rintro e w' ⟨u, rfl, hu, hb⟩
  refine ⟨u, rfl, ?_⟩
  have hk := keepN_le List.isEmpty xs
  have hbb := bjoin' hb hb1
  obtain ⟨h1, h2, h3, h4⟩ := hP
  obtain ⟨m, hm⟩ : ∃ m, keepN List.isEmpty xs = m := ⟨_, rfl⟩
  have hT : trimE List.isEmpty xs = xs.take m := by unfold trimE; rw [hm]
  rw [hm] at hu hk
  rw [hT]
  have hlen : (vs.take m).length = m := by rw [List.length_take]; omega
  have hlx : (xs.take m).length = m := by rw [List.length_take]; omega
  have hlb : (bss.take m).length = m := by rw [List.length_take]; omega
  have hu' : w'.ownsRow (w.alloc (.cells vs.toArray 47)).heap.size 47 1 u (vs.take m).length (vs.take m) := by rw [hlen]; exact hu
  obtain ⟨h0, rfl⟩ | ⟨g, cap, rfl, hg, hlt, hc⟩ := own_cells hu'
  · have m0 : m = 0 := by rw [← hlen, h0]; rfl
    subst m0
    exact ⟨[], ⟨by simp, .inl ⟨none, 0, rfl, by simp, rfl⟩⟩, by simp, by simp, hbb⟩
  · have hg' : w.heap.size + 1 ≤ g := by simpa using hg
    have hsub : ∀ b ∈ (bss.take m).flatten, b ∈ bss.flatten := fun b hb' => by
      have e : bss.flatten = (bss.take m).flatten ++ (bss.drop m).flatten := by rw [← List.flatten_append, List.take_append_drop]
      rw [e, List.mem_append]
      exact .inl hb'
    have hin : ∀ b ∈ bss.flatten, base ≤ b ∧ b < w.heap.size := fun b hb' => by
      rw [List.mem_flatten] at hb'
      obtain ⟨l, hl', ha⟩ := hb'
      obtain ⟨i, hi, rfl⟩ := List.getElem_of_mem hl'
      exact (h4 i (by omega) (by omega) hi).2 b ha
    refine ⟨g :: (bss.take m).flatten, ⟨by omega, .inr ⟨g, 0, cap, bss.take m, by rw [hlen, hlx], hlt, rfl, by omega, fun i hi hi2 => ?_⟩⟩, ?_, ?_, hbb⟩
    · have hix : i < xs.length := by omega
      obtain ⟨k1, k2⟩ := h4 i hix (by omega) (by omega)
      rw [List.getElem_take, List.getElem_take]
      refine ⟨vs[i]'(by omega), ?_, OAt.kept keptO_rep k1 hbb.size fun d hd => hbb.block d (k2 d hd).2⟩
      have := (hc i (by omega)).1
      rw [List.getElem_take] at this
      simpa using this
    · rw [List.nodup_cons]
      refine ⟨fun hm' => by have := (hin g (hsub g hm')).2; omega, ?_⟩
      have e : bss.flatten = (bss.take m).flatten ++ (bss.drop m).flatten := by rw [← List.flatten_append, List.take_append_drop]
      rw [e, List.nodup_append] at h3
      exact h3.1
    · intro b hb'
      rw [List.mem_cons] at hb'
      rcases hb' with rfl | hb'
      · exact ⟨by omega, hlt, .inl (by omega)⟩
      · have h5 := hin b (hsub b hb')
        exact ⟨h5.1, Nat.lt_of_lt_of_le h5.2 hbb.size, .inr (hsub b hb')⟩

/-- a field of one repetition that was given -/
theorem newField1 (kr : Rep) (k : Value) (bk : List Nat) (base : Nat) (w : World) (hk : OStrs w k kr bk) (hkn : 0 < kr.length) (hkl : kr.length ≤ 1048576) (hnd : bk.Nodup) (hb : ∀ b ∈ bk, base ≤ b ∧ b < w.heap.size) (hbase : base ≤ w.heap.size) :
    Calls Tryd.prog 50 #[.slice (some ⟨w.heap.size, 0, none⟩) 1 1] (w.alloc (.cells #[k] 50)) fun e w' => ∃ u, e = .returned (.agg #[u]) ∧ ∃ bs, OReps w' u [kr] bs ∧ bs.Nodup ∧ (∀ b ∈ bs, base ≤ b ∧ b < w'.heap.size ∧ (w.heap.size ≤ b ∨ b ∈ bk)) ∧ Below w.heap.size w w' := by
  have hb1 := (Below.refl w.heap.size w).alloc (Nat.le_refl _) (.cells #[k] 50)
  have hrow : (w.alloc (.cells #[k] 50)).ownsRow w.heap.size 50 1 (.slice (some ⟨w.heap.size, 0, none⟩) 1 1) [k].length [k] := by
    have h := World.ownsRow_lit (base := w.heap.size) (e := 50) (size := 1) w #[k] 1 (Nat.le_refl _) (by unfold maxLen; omega) rfl
    simpa using h
  obtain ⟨a, c, rfl, _⟩ := (OAt.toAt toAt_str hk (lo := 0) (fun _ _ => Nat.zero_le _)).form
  refine (newField_any (β := ByteArray) [kr] [.slice a kr.length c] w.heap.size _ _ hrow (lens1 a kr c) (by simp) (by simp) (by intro x hx; simp at hx; subst hx; omega)).mono ?_
  rintro e w' ⟨u, rfl, hu, hb2⟩
  have e0 : keepN List.isEmpty [kr] = 1 := by
    cases kr with
    | nil => simp at hkn
    | cons x r => rfl
  rw [e0] at hu
  obtain ⟨h, _⟩ | ⟨g, c2, rfl, hg, hl2, hc2⟩ := own_cells (cs := [.slice a kr.length c]) hu
  · cases h
  have hcell : w'.cell? ⟨g, 0, none⟩ = some (.slice a kr.length c) := (hc2 0 (by simp)).1
  have hsz : (w.alloc (.cells #[.slice a kr.length c] 50)).heap.size = w.heap.size + 1 := by simp
  rw [hsz] at hg
  have hbb := bjoin' hb2 hb1
  refine ⟨_, rfl, g :: bk, ⟨by simp, .inr ⟨g, 0, c2, [bk], rfl, hl2, by simp, rfl, fun i hi h' => ?_⟩⟩, ?_, ?_, hbb⟩
  · obtain rfl : i = 0 := by simp at hi; omega
    exact ⟨_, hcell, OAt.kept keptO_str hk hbb.size fun d hd => hbb.block d (hb d hd).2⟩
  · rw [List.nodup_cons]
    exact ⟨fun hm => by have := (hb g hm).2; omega, hnd⟩
  · intro b hb'
    rw [List.mem_cons] at hb'
    rcases hb' with rfl | hb'
    · exact ⟨by omega, hl2, .inl (by omega)⟩
    · exact ⟨(hb b hb').1, Nat.lt_of_lt_of_le (hb b hb').2 hbb.size, .inr hb'⟩
end Go.Proofs.YtcphfhfockjljaaDoor.Msg

namespace Go.Proofs.YtcphfhfockjljaaDoor.Msg
open Go.ChangeShapes Go.WideShapes Go.ChangeAt Go.RowKit
set_option linter.unusedVariables false
set_option linter.unusedSimpArgs false

/-! lists that grow by append: of texts, and of lists whose blocks are known -/
def tC (s : ByteArray) : List Value := [.string s]
theorem tC_one : ∀ (x : ByteArray), ∀ u ∈ tC x, u.oneCell' = true := fun x u hu => by rw [List.mem_singleton.1 hu]; rfl
theorem flat_tC (xs : List ByteArray) : flat tC xs = xs.map Value.string := by
  unfold flat
  induction xs with
  | nil => rfl
  | cons x t ih => rw [List.map_cons, List.flatten_cons, ih]; rfl
theorem tC_strs {base : Nat} {w : World} {v : Value} {xs : List ByteArray} (h : FB tC 1 9 base w v xs) (hl : xs.length ≤ 9223372036854775807) (hz : ∀ s ∈ xs, s.size ≤ 9223372036854775807) : ∃ bs, StrsC w v xs bs ∧ ∀ b ∈ bs, b ∈ v.ownBlock.toList := by
  obtain ⟨a, cap, e, hc1, hc2⟩ := h.form
  have h' : w.ownsRow base 9 1 v (xs.map Value.string).length (xs.map Value.string) := by rw [List.length_map, ← flat_tC]; exact h
  rcases own_cells h' with ⟨h0, rfl⟩ | ⟨g, cap', rfl, hg, hlt, hc⟩
  · exact ⟨[], ⟨⟨hl, .inl ⟨none, 0, rfl, List.map_eq_nil_iff.1 h0, rfl⟩⟩, a, cap, e, hc1, hc2⟩, by simp⟩
  · refine ⟨[g], ⟨⟨hl, .inr ⟨g, 0, cap', List.replicate xs.length [], by rw [List.length_map], hlt, by simp, by simp, fun i hi h2 => ?_⟩⟩, a, cap, e, hc1, hc2⟩, fun b hb => by rw [List.mem_singleton.1 hb]; simp [Value.ownBlock]⟩
    have q := hc i (by rw [List.length_map]; exact hi)
    rw [List.getElem_map] at q
    exact ⟨by simpa using q.1, by simpa using q.2, hz _ (List.getElem_mem hi), by simp⟩
abbrev AE (α : Type) := List α × (Option Addr × Nat)
def aV {α : Type} (p : AE α) : Value := .slice p.2.1 p.1.length p.2.2
def aC {α : Type} (p : AE α) : List Value := [.slice p.2.1 p.1.length p.2.2]
theorem aC_one {α : Type} : ∀ (p : AE α), ∀ u ∈ aC p, u.oneCell' = true := fun p u hu => by rw [List.mem_singleton.1 hu]; rfl
structure ARow {α : Type} (O : World → Value → List α → List Nat → Prop) (e : TypeId) (base : Nat) (bad : Nat → Prop) (w : World) (v : Value) (ps : List (AE α)) : Prop where
  row : FB aC 1 e base w v ps
  own : ∀ b, v.ownBlock = some b → ¬ bad b
  el : ∀ p ∈ ps, ∃ bs, O w (aV p) p.1 bs ∧ ∀ b ∈ bs, b < w.heap.size ∧ ¬ bad b ∧ v.ownBlock ≠ some b
theorem ARow.nil {α : Type} (O : World → Value → List α → List Nat → Prop) (e : TypeId) (base : Nat) (bad : Nat → Prop) (w : World) : ARow O e base bad w (.slice none 0 0) [] :=
  ⟨FB.nil _ _ _ _ _, fun b h => by simp [Value.ownBlock] at h, fun p h => by cases h⟩
theorem ARow.lit {α : Type} (O : World → Value → List α → List Nat → Prop) (e : TypeId) (bad : Nat → Prop) (w : World) (hb : ¬ bad w.heap.size) : ARow O e w.heap.size bad (w.alloc (.cells #[] e)) (.slice (some ⟨w.heap.size, 0, none⟩) 0 0) [] :=
  ⟨FB.lit _ _ _ _, fun b h => by simp [Value.ownBlock] at h; subst h; exact hb, fun p h => by cases h⟩
theorem ARow.keep {α : Type} {O : World → Value → List α → List Nat → Prop} (K : KeepO O) {e : TypeId} {base : Nat} {bad : Nat → Prop} {w w' : World} {v : Value} {ps : List (AE α)} (h : ARow O e base bad w v ps) (hs : w.heap.size ≤ w'.heap.size) (hb : ∀ b, b < w.heap.size → ¬ bad b → w'.heap[b]? = w.heap[b]?) : ARow O e base bad w' v ps :=
  ⟨h.row.keep fun b hb' => hb b (h.row.own b hb').2 (h.own b (by simpa using hb')), h.own, fun p hp => by
    obtain ⟨bs, hO, hbs⟩ := h.el p hp
    exact ⟨bs, K _ _ _ _ _ hO hs fun d hd => hb d (hbs d hd).1 (hbs d hd).2.1, fun b hb' => ⟨Nat.lt_of_lt_of_le (hbs b hb').1 hs, (hbs b hb').2⟩⟩⟩
theorem ARow.below {α : Type} {O : World → Value → List α → List Nat → Prop} (K : KeepO O) {e : TypeId} {base : Nat} {bad : Nat → Prop} {w w' : World} {v : Value} {ps : List (AE α)} (h : ARow O e base bad w v ps) (hb : Below w.heap.size w w') : ARow O e base bad w' v ps :=
  h.keep K hb.size fun b h1 _ => hb.block b h1
theorem ARow.set {α : Type} {O : World → Value → List α → List Nat → Prop} (K : KeepO O) {e : TypeId} {base : Nat} {bad : Nat → Prop} {w : World} {v : Value} {ps : List (AE α)} (h : ARow O e base bad w v ps) {b o : Nat} (hb : bad b) (x : Value) : ARow O e base bad (w.setCell ⟨b, o, none⟩ x) v ps :=
  h.keep K (by rw [Deep.nblk_setCell]; exact Nat.le_refl _) fun d _ hn => Deep.blk_setCell_other _ ⟨b, o, none⟩ _ d (fun e => hn (e ▸ hb))
theorem ARow.form {α : Type} {O : World → Value → List α → List Nat → Prop} {e : TypeId} {base : Nat} {bad : Nat → Prop} {w : World} {v : Value} {ps : List (AE α)} (h : ARow O e base bad w v ps) : ∃ a c, v = .slice a ps.length c ∧ ps.length ≤ c ∧ c ≤ 9223372036854775807 := h.row.form
theorem ARow.push {α : Type} {O : World → Value → List α → List Nat → Prop} (K : KeepO O) {t e : TypeId} {z : Value} {bytes : Nat} (ht : Tryd.prog.underlying t = some (.slice e)) (hinfo : (Tryd.prog.info? e).map (fun i => (i.zero, i.size, i.bytes)) = some (some z, 1, bytes)) (hz : z.cells.size = 1) (hby : bytes ≤ 1000)
    {base : Nat} {bad : Nat → Prop} {w : World} {v : Value} {ps : List (AE α)} (h : ARow O e base bad w v ps) (hb : base ≤ w.heap.size) (hl : ps.length ≤ 1000000) (hbad : ∀ b, w.heap.size ≤ b → ¬ bad b) (p : AE α) {bs : List Nat} (hO : O w (aV p) p.1 bs) (hbs : ∀ b ∈ bs, b < w.heap.size ∧ ¬ bad b ∧ v.ownBlock ≠ some b) (ty : TypeId) :
    ∃ v' w', (Builtin.append_ #[t, t] ty #[v, .slice (some ⟨w.heap.size, 0, none⟩) 1 1]).run Tryd.prog (w.alloc (.cells #[.slice p.2.1 p.1.length p.2.2] e)) = .ok v' w' ∧ ARow O e base bad w' v' (ps ++ [p]) ∧ Only v.ownBlock.toList w w' := by
  obtain ⟨v', w', hr, hF, hOn, hat⟩ := app1 (C := aC) (c := 1) (bytes := bytes) (z := z) ht hinfo hz (by decide) (fun _ => rfl) aC_one h.row ty p hb hl hby
  have hne : ∀ b, b < w.heap.size → v.ownBlock ≠ some b → v'.ownBlock ≠ some b := fun b hlt h1 e => by
    rcases hat with ha | ⟨g, ha, hg⟩
    · exact h1 (ha.symm.trans e)
    · rw [ha] at e; injection e with e; omega
  refine ⟨v', w', hr, ⟨hF, fun b e => ?_, fun q hq => ?_⟩, hOn⟩
  · rcases hat with ha | ⟨g, ha, hg⟩
    · exact h.own b (ha.symm.trans e)
    · rw [ha] at e; injection e with e; subst e; exact hbad g hg
  · have key : ∀ (q : AE α) (cs : List Nat), O w (aV q) q.1 cs → (∀ b ∈ cs, b < w.heap.size ∧ ¬ bad b ∧ v.ownBlock ≠ some b) → ∃ bs, O w' (aV q) q.1 bs ∧ ∀ b ∈ bs, b < w'.heap.size ∧ ¬ bad b ∧ v'.ownBlock ≠ some b := fun q cs hq hcs =>
      ⟨cs, K _ _ _ _ _ hq hOn.size fun d hd => hOn.block d (hcs d hd).1 (fun hm => (hcs d hd).2.2 (by simpa using hm)), fun b hb' => ⟨Nat.lt_of_lt_of_le (hcs b hb').1 hOn.size, (hcs b hb').2.1, hne b (hcs b hb').1 (hcs b hb').2.2⟩⟩
    rcases List.mem_append.1 hq with hq | hq
    · obtain ⟨cs, h1, h2⟩ := h.el q hq
      exact key q cs h1 h2
    · rw [List.mem_singleton.1 hq]; exact key p bs hO hbs
theorem aC_flat {α : Type} (ps : List (AE α)) : flat aC ps = ps.map aV := by
  unfold flat
  induction ps with
  | nil => rfl
  | cons x t ih => rw [List.map_cons, List.flatten_cons, ih]; rfl
theorem choose_bss {α : Type} {O : World → Value → List α → List Nat → Prop} {w : World} {Q : Nat → Prop} : ∀ (ps : List (AE α)), (∀ p ∈ ps, ∃ bs, O w (aV p) p.1 bs ∧ ∀ b ∈ bs, Q b) → ∃ bss : List (List Nat), bss.length = ps.length ∧ ∀ i (h : i < ps.length) (h2 : i < bss.length), O w (aV ps[i]) ps[i].1 bss[i] ∧ ∀ b ∈ bss[i], Q b
  | [], _ => ⟨[], rfl, fun i h => absurd h (by simp)⟩
  | p :: ps, h => by
    obtain ⟨bs, h1, h2⟩ := h p (List.mem_cons_self ..)
    obtain ⟨bss, hl, hr⟩ := choose_bss ps fun q hq => h q (List.mem_cons_of_mem _ hq)
    refine ⟨bs :: bss, by simp [hl], fun i hi hi2 => ?_⟩
    match i, hi, hi2 with
    | 0, _, _ => exact ⟨h1, h2⟩
    | i + 1, hi, hi2 => exact hr i (by simpa using hi) (by simpa using hi2)
/-- the whole list, for reading -/
theorem ARow.all {α : Type} {O : World → Value → List α → List Nat → Prop} {R : World → Nat → Nat → List α → List Nat → Prop} (hR : ∀ w b off x bs v, w.cell? ⟨b, off, none⟩ = some v → O w v x bs → R w b off x bs)
    {e : TypeId} {base : Nat} {bad : Nat → Prop} {w : World} {v : Value} {ps : List (AE α)} (h : ARow O e base bad w v ps) (hl : ps.length ≤ 9223372036854775807) : ∃ bs, OAt 1 R w v (ps.map Prod.fst) bs ∧ ∀ b ∈ bs, b < w.heap.size ∧ ¬ bad b := by
  obtain ⟨bss, hlb, hbb⟩ := choose_bss ps h.el
  have h' : w.ownsRow base e 1 v (ps.map aV).length (ps.map aV) := by rw [List.length_map, ← aC_flat]; exact h.row
  rcases own_cells h' with ⟨h0, rfl⟩ | ⟨g, cap', rfl, hg, hlt, hc⟩
  · have : ps = [] := List.map_eq_nil_iff.1 h0
    subst this
    exact ⟨[], ⟨by simp, .inl ⟨none, 0, rfl, rfl, rfl⟩⟩, by simp⟩
  · refine ⟨g :: bss.flatten, ⟨by rw [List.length_map]; exact hl, .inr ⟨g, 0, cap', bss, by rw [List.length_map, List.length_map], hlt, rfl, by rw [hlb, List.length_map], fun i hi h2 => ?_⟩⟩, fun b hb => ?_⟩
    · have hi' : i < ps.length := by rw [List.length_map] at hi; exact hi
      have q := (hc i (by rw [List.length_map]; exact hi')).1
      rw [List.getElem_map] at q
      rw [List.getElem_map]
      exact hR _ _ _ _ _ _ (by simpa using q) (hbb i hi' h2).1
    · rw [List.mem_cons, List.mem_flatten] at hb
      rcases hb with rfl | ⟨l, hl', hm⟩
      · exact ⟨hlt, h.own b (by simp [Value.ownBlock])⟩
      · obtain ⟨i, hi, rfl⟩ := List.getElem_of_mem hl'
        have := (hbb i (by omega) hi).2 b hm
        exact ⟨this.1, this.2.1⟩
theorem keepO_strsC : KeepO StrsC := fun _ _ _ _ _ h s d => ⟨OAt.kept keptO_str h.1 s d, h.2⟩
theorem keepO_repsC : KeepO RepsC := fun _ _ _ _ _ h s d => OAt.kept keptO_repC h s d
theorem keepO_reps : KeepO OReps := fun _ _ _ _ _ h s d => OAt.kept keptO_rep h s d

/-! what is drawn, over lists -/
def drRep (cs : List UInt8) (p : Nat) : Rep := (List.range (tk cs p 4)).map fun x => drComp cs (p + 1 + 2 * x)
def drRepP (cs : List UInt8) (p : Nat) : Nat := p + 1 + 2 * tk cs p 4
def drReps (cs : List UInt8) (p : Nat) : Nat → List Rep × Nat
  | 0 => ([], p)
  | n + 1 => ((drReps cs p n).1 ++ [drRep cs (drReps cs p n).2], drRepP cs (drReps cs p n).2)
def drField (cs : List UInt8) (p : Nat) : Field × Nat := drReps cs (p + 1) (tk cs p 3)
def drFields (cs : List UInt8) (p : Nat) : Nat → List Field × Nat
  | 0 => ([], p)
  | n + 1 => ((drFields cs p n).1 ++ [(drField cs (drFields cs p n).2).1], (drField cs (drFields cs p n).2).2)
def drNames : List ByteArray := [⟨#[77, 83, 65]⟩, ⟨#[81, 80, 68]⟩, ⟨#[90, 90, 49]⟩, ⟨#[81, 65, 75]⟩, ⟨#[82, 68, 84]⟩, ⟨#[65, 48, 48]⟩]
def drSeg (cs : List UInt8) (i p : Nat) : Seg × Nat :=
  (⟨if i = 0 then ⟨#[77, 83, 72]⟩ else drNames.getD (tk cs p 6) ⟨#[]⟩, trimF (drFields cs (p + 1 + 1) (tk cs (p + 1) 5)).1⟩, (drFields cs (p + 1 + 1) (tk cs (p + 1) 5)).2)
def drSegs (cs : List UInt8) (p : Nat) : Nat → List Seg × Nat
  | 0 => ([], p)
  | n + 1 => ((drSegs cs p n).1 ++ [(drSeg cs n (drSegs cs p n).2).1], (drSeg cs n (drSegs cs p n).2).2)
def drCount (L per lo hi : Nat) : Nat := if hi < lo + L / per then hi else lo + L / per
def drMsg (cs : List UInt8) (p : Nat) : List Seg × Nat := drSegs cs p (drCount cs.length 12 1 8)
theorem drReps_p (cs : List UInt8) (p : Nat) : ∀ n, (drReps cs p n).2 ≤ p + 7 * n
  | 0 => by show p ≤ _; omega
  | n + 1 => by
    have := drReps_p cs p n
    have h1 := tk_le cs (drReps cs p n).2 4 3 (by decide)
    show drRepP cs _ ≤ _
    unfold drRepP
    omega
theorem drField_p (cs : List UInt8) (p : Nat) : (drField cs p).2 ≤ p + 15 := by
  have := drReps_p cs (p + 1) (tk cs p 3)
  have h1 := tk_le cs p 3 2 (by decide)
  unfold drField
  omega
theorem drFields_p (cs : List UInt8) (p : Nat) : ∀ n, (drFields cs p n).2 ≤ p + 15 * n
  | 0 => by show p ≤ _; omega
  | n + 1 => by
    have := drFields_p cs p n
    have h1 := drField_p cs (drFields cs p n).2
    show (drField cs _).2 ≤ _
    omega
theorem drSeg_p (cs : List UInt8) (i p : Nat) : (drSeg cs i p).2 ≤ p + 62 := by
  have := drFields_p cs (p + 1 + 1) (tk cs (p + 1) 5)
  have h1 := tk_le cs (p + 1) 5 4 (by decide)
  unfold drSeg
  dsimp only
  omega
theorem drSegs_p (cs : List UInt8) (p : Nat) : ∀ n, (drSegs cs p n).2 ≤ p + 62 * n
  | 0 => by show p ≤ _; omega
  | n + 1 => by
    have := drSegs_p cs p n
    have h1 := drSeg_p cs n (drSegs cs p n).2
    show (drSeg cs n _).2 ≤ _
    omega
theorem drReps_len (cs : List UInt8) (p : Nat) : ∀ n, (drReps cs p n).1.length = n
  | 0 => rfl
  | n + 1 => by show ((drReps cs p n).1 ++ [_]).length = _; rw [List.length_append, drReps_len cs p n]; rfl
theorem drFields_len (cs : List UInt8) (p : Nat) : ∀ n, (drFields cs p n).1.length = n
  | 0 => rfl
  | n + 1 => by show ((drFields cs p n).1 ++ [_]).length = _; rw [List.length_append, drFields_len cs p n]; rfl
theorem drSegs_len (cs : List UInt8) (p : Nat) : ∀ n, (drSegs cs p n).1.length = n
  | 0 => rfl
  | n + 1 => by show ((drSegs cs p n).1 ++ [_]).length = _; rw [List.length_append, drSegs_len cs p n]; rfl
end Go.Proofs.YtcphfhfockjljaaDoor.Msg

namespace Go.Proofs.YtcphfhfockjljaaDoor.Msg
open Go.ChangeShapes Go.WideShapes Go.ChangeAt Go.RowKit
set_option linter.unusedVariables false
set_option linter.unusedSimpArgs false

/-! a list of segments that grows by append, whose blocks are known -/
abbrev SgE := Seg × (Option Addr × Nat)
def sgV (p : SgE) : Value := .slice p.2.1 p.1.fields.length p.2.2
def sgC (p : SgE) : List Value := [.string p.1.name, .slice p.2.1 p.1.fields.length p.2.2]
theorem sgC_one : ∀ (p : SgE), ∀ u ∈ sgC p, u.oneCell' = true := fun p u hu => by
  simp only [sgC, List.mem_cons, List.not_mem_nil, or_false] at hu
  rcases hu with rfl | rfl <;> rfl
theorem info_Sg : (Tryd.prog.info? 44).map (fun i => (i.zero, i.size, i.bytes)) = some (some (.agg #[.string ByteArray.empty, .slice none 0 0]), 2, 40) := by kernel_rfl
structure SgRow (base : Nat) (bad : Nat → Prop) (w : World) (v : Value) (ps : List SgE) : Prop where
  row : FB sgC 2 44 base w v ps
  own : ∀ b, v.ownBlock = some b → ¬ bad b
  nm : ∀ p ∈ ps, p.1.name.size ≤ 9223372036854775807
  el : ∀ p ∈ ps, ∃ bs, OFields w (sgV p) p.1.fields bs ∧ ∀ b ∈ bs, b < w.heap.size ∧ ¬ bad b ∧ v.ownBlock ≠ some b
theorem SgRow.nil (base : Nat) (bad : Nat → Prop) (w : World) : SgRow base bad w (.slice none 0 0) [] :=
  ⟨FB.nil _ _ _ _ _, (fun b h => by simp [Value.ownBlock] at h), (fun p h => by cases h), (fun p h => by cases h)⟩
theorem SgRow.keep {base : Nat} {bad : Nat → Prop} {w w' : World} {v : Value} {ps : List SgE} (h : SgRow base bad w v ps) (hs : w.heap.size ≤ w'.heap.size) (hb : ∀ b, b < w.heap.size → ¬ bad b → w'.heap[b]? = w.heap[b]?) : SgRow base bad w' v ps :=
  ⟨h.row.keep fun b hb' => hb b (h.row.own b hb').2 (h.own b (by simpa using hb')), h.own, h.nm, fun p hp => by
    obtain ⟨bs, hO, hbs⟩ := h.el p hp
    exact ⟨bs, OAt.kept keptO_field hO hs fun d hd => hb d (hbs d hd).1 (hbs d hd).2.1, fun b hb' => ⟨Nat.lt_of_lt_of_le (hbs b hb').1 hs, (hbs b hb').2⟩⟩⟩
theorem SgRow.below {base : Nat} {bad : Nat → Prop} {w w' : World} {v : Value} {ps : List SgE} (h : SgRow base bad w v ps) (hb : Below w.heap.size w w') : SgRow base bad w' v ps := h.keep hb.size fun b h1 _ => hb.block b h1
theorem SgRow.set {base : Nat} {bad : Nat → Prop} {w : World} {v : Value} {ps : List SgE} (h : SgRow base bad w v ps) {b o : Nat} (hb : bad b) (x : Value) : SgRow base bad (w.setCell ⟨b, o, none⟩ x) v ps :=
  h.keep (by rw [Deep.nblk_setCell]; exact Nat.le_refl _) fun d _ hn => Deep.blk_setCell_other _ ⟨b, o, none⟩ _ d (fun e => hn (e ▸ hb))
theorem SgRow.form {base : Nat} {bad : Nat → Prop} {w : World} {v : Value} {ps : List SgE} (h : SgRow base bad w v ps) : ∃ a c, v = .slice a ps.length c ∧ ps.length ≤ c ∧ c ≤ 9223372036854775807 := h.row.form
theorem SgRow.push {base : Nat} {bad : Nat → Prop} {w : World} {v : Value} {ps : List SgE} (h : SgRow base bad w v ps) (hb : base ≤ w.heap.size) (hl : ps.length ≤ 1000000) (hbad : ∀ b, w.heap.size ≤ b → ¬ bad b) (p : SgE) (hn : p.1.name.size ≤ 9223372036854775807) {bs : List Nat} (hO : OFields w (sgV p) p.1.fields bs) (hbs : ∀ b ∈ bs, b < w.heap.size ∧ ¬ bad b ∧ v.ownBlock ≠ some b) (ty : TypeId) :
    ∃ v' w', (Builtin.append_ #[23, 23] ty #[v, .slice (some ⟨w.heap.size, 0, none⟩) 1 1]).run Tryd.prog (w.alloc (.cells #[.string p.1.name, .slice p.2.1 p.1.fields.length p.2.2] 44)) = .ok v' w' ∧ SgRow base bad w' v' (ps ++ [p]) ∧ Only v.ownBlock.toList w w' := by
  obtain ⟨v', w', hr, hF, hOn, hat⟩ := app1 (C := sgC) (c := 2) (bytes := 40) (z := .agg #[.string ByteArray.empty, .slice none 0 0]) Tryd.underlying23 info_Sg rfl (by decide) (fun _ => rfl) sgC_one h.row ty p hb hl (by decide)
  have hne : ∀ b, b < w.heap.size → v.ownBlock ≠ some b → v'.ownBlock ≠ some b := fun b hlt h1 e => by
    rcases hat with ha | ⟨g, ha, hg⟩
    · exact h1 (ha.symm.trans e)
    · rw [ha] at e; injection e with e; omega
  refine ⟨v', w', hr, ⟨hF, fun b e => ?_, fun q hq => ?_, fun q hq => ?_⟩, hOn⟩
  · rcases hat with ha | ⟨g, ha, hg⟩
    · exact h.own b (ha.symm.trans e)
    · rw [ha] at e; injection e with e; subst e; exact hbad g hg
  · rcases List.mem_append.1 hq with hq | hq
    · exact h.nm q hq
    · rw [List.mem_singleton.1 hq]; exact hn
  · have key : ∀ (q : SgE) (cs : List Nat), OFields w (sgV q) q.1.fields cs → (∀ b ∈ cs, b < w.heap.size ∧ ¬ bad b ∧ v.ownBlock ≠ some b) → ∃ bs, OFields w' (sgV q) q.1.fields bs ∧ ∀ b ∈ bs, b < w'.heap.size ∧ ¬ bad b ∧ v'.ownBlock ≠ some b := fun q cs hq hcs =>
      ⟨cs, OAt.kept keptO_field hq hOn.size fun d hd => hOn.block d (hcs d hd).1 (fun hm => (hcs d hd).2.2 (by simpa using hm)), fun b hb' => ⟨Nat.lt_of_lt_of_le (hcs b hb').1 hOn.size, (hcs b hb').2.1, hne b (hcs b hb').1 (hcs b hb').2.2⟩⟩
    rcases List.mem_append.1 hq with hq | hq
    · obtain ⟨cs, h1, h2⟩ := h.el q hq
      exact key q cs h1 h2
    · rw [List.mem_singleton.1 hq]; exact key p bs hO hbs
theorem SgRow.segs {base : Nat} {bad : Nat → Prop} {w : World} {v : Value} {ps : List SgE} (h : SgRow base bad w v ps) (hl : ps.length ≤ 9223372036854775807) : SegsAt 0 w v (ps.map Prod.fst) := by
  obtain ⟨h0, hA⟩ := FB.at (C := sgC) (c := 2) (Z := fun _ => True) (fun _ => rfl) h.row hl (fun i hi => trivial)
  refine ⟨by rw [List.length_map]; exact h0, ?_⟩
  rcases hA with ⟨a, cap, e, e2⟩ | ⟨b, off, cap, e, hb, hA⟩
  · exact .inl ⟨a, cap, e, by rw [e2]; rfl⟩
  · refine .inr ⟨b, off, cap, by rw [List.length_map]; exact e, ⟨Nat.zero_le _, hb.2⟩, fun i hi => ?_⟩
    have hi' : i < ps.length := by rw [List.length_map] at hi; exact hi
    rw [List.getElem_map]
    have h1 := (hA i hi').1
    obtain ⟨bs, hO, hbs⟩ := h.el ps[i] (List.getElem_mem hi')
    refine ⟨by simpa [sgC] using h1 0 (by simp [sgC]), h.nm _ (List.getElem_mem hi'), sgV ps[i], by simpa [sgC, sgV] using h1 1 (by simp [sgC]), OAt.toAt toAt_field hO fun d _ => Nat.zero_le _⟩
/-- a list that l2Trim gave, as an element -/
theorem trim_el {P : Nat → Prop} {e : TypeId} {base : Nat} {w : World} {u : Value} {fs : List Field} (h : RBuf OReps P e base w u fs) (hl : fs.length ≤ 9223372036854775807) : ∃ a c bs, u = .slice a fs.length c ∧ OFields w (.slice a fs.length c) fs bs ∧ ∀ b ∈ bs, b < w.heap.size ∧ (P b ∨ base ≤ b) := by
  obtain ⟨a, cap, e1, _, _, _, bs, hO, hbs⟩ := RBuf.first (R := FieldO) (fun w b off x bs v h1 h2 => ⟨v, h1, h2⟩) h hl (n := fs.length) (Nat.le_refl _)
  rw [List.take_length] at hO
  exact ⟨a, cap, bs, e1, hO, hbs⟩
end Go.Proofs.YtcphfhfockjljaaDoor.Msg
