import Derived.Test.YthjilkclppfpdabSpecSegwithImplSegCut
import Derived.Test.YthjilkclppfpdabImplPartswithImplHead3
import Derived.Test.YthjilkclppfpdabParseFieldswithMsgOk
namespace Go.Proofs.Ythjilkclppfpdab.Msg
open Go.ChangeShapes Go.WideShapes Go.ChangeAt Go.RowKit
set_option linter.unusedVariables false
set_option linter.unusedSimpArgs false

theorem trimR_word (s : ByteArray) : trimR (wordF s) = wordF s := by
  unfold wordF
  split
  · rfl
  · rename_i h
    have e : emptyB s = false := by unfold emptyB; rw [beq_eq_false_iff_ne]; exact h
    have e1 : trimC [s] = [s] := by unfold trimC trimE; simp [keepN, e]
    unfold trimR
    simp only [List.map_cons, List.map_nil, e1]
    rfl
theorem trimF_words (texts : List ByteArray) : trimF (texts.map wordF) = trimE List.isEmpty (texts.map wordF) := by
  unfold trimF
  rw [List.map_map]
  congr 1
  apply List.map_congr_left
  intro s _
  exact trimR_word s
/-- a list that was built for reading, read -/
theorem RBuf.fields {P : Nat → Prop} {base : Nat} {w : World} {v : Value} {xs : List Field} (h : RBuf OReps P 90 base w v xs) (hP : ∀ b, P b → base ≤ b) (hl : xs.length ≤ 9223372036854775807) : FieldsAt base w v xs := by
  obtain ⟨a, cap, rfl, _, _, _, bs, hO, hb⟩ := RBuf.first (R := FieldO) (fun w b off x bs v h1 h2 => ⟨v, h1, h2⟩) h hl (n := xs.length) (Nat.le_refl _)
  rw [List.take_length] at hO
  exact OAt.toAt toAt_field hO fun c hc => by
    rcases (hb c hc).2 with h | h
    · exact hP c h
    · exact h
/-- its row -/
theorem RBuf.row {P : Nat → Prop} {base : Nat} {w : World} {v : Value} {xs : List Field} (h : RBuf OReps P 90 base w v xs) (hP : ∀ b, P b → base ≤ b) (h0 : 0 < xs.length) :
    ∃ g cap, v = .slice (some ⟨g, 0, none⟩) xs.length cap ∧ base ≤ g ∧ g < w.heap.size ∧ (∀ i, w.frozen? ⟨g, i, none⟩ = false) ∧ ∀ i (hi : i < xs.length), ∃ u bs, w.cell? ⟨g, i, none⟩ = some u ∧ OReps w u xs[i] bs ∧ ∀ b ∈ bs, base ≤ b ∧ b < w.heap.size ∧ b ≠ g := by
  obtain ⟨vs, bss, h1, h2, ⟨hlen, hown⟩, h5⟩ := h
  rcases hown with ⟨rfl, e⟩ | ⟨g, cap, cur, rfl, hg, hs, hcap, hm, hsz, ht⟩
  · omega
  · have hgl : g < w.heap.size := by rw [Array.getElem?_eq_some_iff] at hs; exact hs.1
    refine ⟨g, cap, rfl, hg, hgl, fun i => by simp [World.frozen?, hs], fun i hi => ⟨vs[i]'(by omega), bss[i]'(by omega), ?_, (h5 i hi (by omega) (by omega)).1, fun b hb => ?_⟩⟩
    · obtain ⟨ve, hve⟩ : ∃ ve, vs[i]'(by omega) = ve := ⟨_, rfl⟩
      have e1 : vs[i]? = some ve := by rw [← hve]; exact List.getElem?_eq_getElem (by omega)
      rw [hve]
      rw [← ht, List.getElem?_take, if_pos (by omega)] at e1
      simp only [World.cell?, hs]
      rw [← Array.getElem?_toList, e1]
      rfl
    · have k := (h5 i hi (by omega) (by omega)).2 b hb
      exact ⟨hP b k.1, k.2.1, fun e => k.2.2 (by simp [Value.ownBlock, e])⟩
def headT (a control : ByteArray) : List ByteArray := [⟨#[]⟩, ⟨#[]⟩, ⟨#[]⟩, ⟨#[]⟩, ⟨#[]⟩, ⟨#[]⟩, a, control, ⟨#[]⟩, v251]
theorem headT_trim (a control : ByteArray) : trimF ((headT a control).map wordF) = [[], [], [], [], [], [], wordF a, wordF control, [], wordF v251] := by
  rw [trimF_words]
  rfl
theorem words_at (w : World) (ts : List ByteArray) (hz : ∀ t ∈ ts, t.size ≤ 9223372036854775807) (hl : ts.length ≤ 9223372036854775807) :
    StrsAt 0 (w.alloc (.cells (ts.map Value.string).toArray 9)) (.slice (some ⟨w.heap.size, 0, none⟩) ts.length ts.length) ts :=
  ⟨hl, .inr ⟨w.heap.size, 0, ts.length, rfl, ⟨Nat.zero_le _, by simp⟩, fun i hi => ⟨by simp [hi], hz _ (List.getElem_mem hi)⟩⟩⟩

set_option maxRecDepth 100000 in
set_option maxHeartbeats 2000000 in
theorem headS_any (a b control : ByteArray) (w : World) (ha : a.size ≤ 1048576) (hb : b.size ≤ 1048576) (hc : control.size ≤ 1048576) :
    Calls Try.prog 60 #[.string a, .string b, .string control] w fun e w' => ∃ u, e = .returned (.agg #[.string ⟨#[77, 83, 72]⟩, u]) ∧ FieldsAt (w.heap.size + 1) w' u (headF [a, b] control) ∧ Below w.heap.size w w' := by
  have hz : ∀ t ∈ headT a control, t.size ≤ 1048576 := by
    intro t ht
    simp only [headT, List.mem_cons, List.not_mem_nil, or_false] at ht
    rcases ht with rfl | rfl | rfl | rfl | rfl | rfl | rfl | rfl | rfl | rfl <;> first | assumption | decide
  have HZ := hide hz
  clear hz
  obtain ⟨W0, hW0⟩ : ∃ W0, w.alloc (Obj.cells #[.string ⟨#[]⟩, .slice none 0 0] 87) = W0 := ⟨_, rfl⟩
  have hs0 : W0.heap.size = w.heap.size + 1 := by rw [← hW0]; simp
  have HB0 : Hid (Below w.heap.size w W0) := by rw [← hW0]; exact (Below.refl _ _).alloc (Nat.le_refl _) _
  have HR0 : Hid (W0.cell? ⟨w.heap.size, 0, none⟩ = some (.string ⟨#[]⟩) ∧ W0.cell? ⟨w.heap.size, 1, none⟩ = some (.slice none 0 0) ∧ ∀ i, W0.frozen? ⟨w.heap.size, i, none⟩ = false) := by rw [← hW0]; exact ⟨by simp, by simp, fun i => by simp⟩
  have HW : Hid (StrsAt 0 (W0.alloc (.cells #[.string ⟨#[]⟩, .string ⟨#[]⟩, .string ⟨#[]⟩, .string ⟨#[]⟩, .string ⟨#[]⟩, .string ⟨#[]⟩, .string a, .string control, .string ⟨#[]⟩, .string ⟨#[50, 46, 53, 46, 49]⟩] 9)) (.slice (some ⟨w.heap.size + 1, 0, none⟩) 10 10) (headT a control)) := by
    have := words_at W0 (headT a control) (fun t ht => Nat.le_trans (HZ.out t ht) (by omega)) (by simp [headT])
    rw [hs0] at this
    exact this
  obtain ⟨W1, hW1⟩ : ∃ W1, W0.alloc (.cells #[.string ⟨#[]⟩, .string ⟨#[]⟩, .string ⟨#[]⟩, .string ⟨#[]⟩, .string ⟨#[]⟩, .string ⟨#[]⟩, .string a, .string control, .string ⟨#[]⟩, .string ⟨#[50, 46, 53, 46, 49]⟩] 9) = W1 := ⟨_, rfl⟩
  have hs1 : W1.heap.size = w.heap.size + 1 + 1 := by rw [← hW1]; simp [hs0]
  have HB1 : Hid (Below W0.heap.size W0 W1) := by rw [← hW1]; exact (Below.refl _ _).alloc (Nat.le_refl _) _
  rw [hW1] at HW
  go_enter Try.func60, Try.ntmps60
  go_wp2_with fail
  try rw [hW0]
  try rw [hW1]
  refine (seg_any ⟨#[77, 83, 72]⟩ (headT a control) _ _ HW.out (by simp [headT]) HZ.out).mono ?_
  rintro e W2 ⟨u2, rfl, hR, hb2⟩
  rw [headT_trim] at hR
  obtain ⟨g, cap, rfl, hg, hgl, hgf, hrow⟩ := RBuf.row hR (fun b h => h) (by simp)
  rw [hs1] at hg hrow
  have hlen : ([[], [], [], [], [], [], wordF a, wordF control, [], wordF v251] : List Field).length = 10 := rfl
  rw [hlen]
  have hb12 : Below W0.heap.size W0 W2 := bjoin' hb2 HB1.out
  have c0 : W2.cell? ⟨w.heap.size, 0, none⟩ = some (.string ⟨#[]⟩) := by rw [hb12.cell (p := ⟨w.heap.size, 0, none⟩) (by simp; omega)]; exact HR0.out.1
  have c1 : W2.cell? ⟨w.heap.size, 1, none⟩ = some (.slice none 0 0) := by rw [hb12.cell (p := ⟨w.heap.size, 1, none⟩) (by simp; omega)]; exact HR0.out.2.1
  have f0 : ∀ i, W2.frozen? ⟨w.heap.size, i, none⟩ = false := fun i => by rw [hb12.frozen (p := ⟨w.heap.size, i, none⟩) (by simp; omega)]; exact HR0.out.2.2 i
  have hwb : w.heap.size < W2.heap.size := by have := hb12.size; omega
  obtain ⟨u6, bs6, c6, hO6, _⟩ := hrow 6 (by simp)
  have HROW := hide hrow
  have HB02 := hide (bjoin' hb12 HB0.out)
  have hne : w.heap.size ≠ g := by omega
  have hne2 : g ≠ W2.heap.size := by omega
  have w6f : W2.frozen? ⟨g, 6, none⟩ = false := hgf 6
  clear hrow hR hb2 hb12 hO6 HW HB1 HR0 HZ hW0 hW1
  obtain ⟨A1, hA1⟩ : ∃ A1, W2.alloc (Obj.cells #[.string ⟨#[77, 83, 72]⟩, .slice (some ⟨g, 0, none⟩) 10 cap] 87) = A1 := ⟨_, rfl⟩
  obtain ⟨A2, hA2⟩ : ∃ A2, A1.alloc (Obj.cells #[.string a, .string b] 9) = A2 := ⟨_, rfl⟩
  obtain ⟨A3, hA3⟩ : ∃ A3, A2.alloc (Obj.cells #[.slice (some ⟨W2.heap.size + 1, 0, none⟩) 2 2] 92) = A3 := ⟨_, rfl⟩
  have t1 : A1.heap.size = W2.heap.size + 1 := by rw [← hA1]; simp
  have t2 : A2.heap.size = W2.heap.size + 1 + 1 := by rw [← hA2]; simp [t1]
  have t3 : A3.heap.size = W2.heap.size + 1 + 1 + 1 := by rw [← hA3]; simp [t2]
  have q1 : Below W2.heap.size W2 A1 := by rw [← hA1]; exact (Below.refl _ _).alloc (Nat.le_refl _) _
  have q2 : Below A1.heap.size A1 A2 := by rw [← hA2]; exact (Below.refl _ _).alloc (Nat.le_refl _) _
  have q3 : Below A2.heap.size A2 A3 := by rw [← hA3]; exact (Below.refl _ _).alloc (Nat.le_refl _) _
  have q13 := bjoin' q3 q2
  have q03 := bjoin' q13 q1
  have m1 : A1.cell? ⟨W2.heap.size, 1, none⟩ = some (.slice (some ⟨g, 0, none⟩) 10 cap) := by rw [← hA1]; simp
  have g6 : A3.cell? ⟨g, 6, none⟩ = some u6 := by rw [q03.cell (p := ⟨g, 6, none⟩) hgl]; exact c6
  have g6f : A3.frozen? ⟨g, 6, none⟩ = false := by rw [q03.frozen (p := ⟨g, 6, none⟩) hgl]; exact hgf 6
  go_upto_region 3 with fail
  obtain ⟨A4, hA4⟩ : ∃ A4, A3.setCell ⟨g, 6, none⟩ (.slice (some ⟨W2.heap.size + 1 + 1, 0, none⟩) 1 1) = A4 := ⟨_, rfl⟩
  rw [hA4]
  have t4 : A4.heap.size = W2.heap.size + 1 + 1 + 1 := by rw [← hA4, Deep.nblk_setCell]; exact t3
  have oth : ∀ c, c ≠ g → A4.heap[c]? = A3.heap[c]? := fun c hc => by rw [← hA4]; exact Deep.blk_setCell_other _ _ _ _ hc
  have d0 : A4.cell? ⟨W2.heap.size, 0, none⟩ = some (.string ⟨#[77, 83, 72]⟩) := by
    rw [cellSame (oth _ (by omega)), q13.cell (p := ⟨W2.heap.size, 0, none⟩) (by rw [t1]; simp), ← hA1]; simp
  have d1 : A4.cell? ⟨W2.heap.size, 1, none⟩ = some (.slice (some ⟨g, 0, none⟩) 10 cap) := by
    rw [cellSame (oth _ (by omega)), q13.cell (p := ⟨W2.heap.size, 1, none⟩) (by rw [t1]; simp), ← hA1]; simp
  have e0 : A4.cell? ⟨w.heap.size, 0, none⟩ = some (.string ⟨#[]⟩) := by rw [cellSame (oth _ hne), q03.cell (p := ⟨w.heap.size, 0, none⟩) hwb]; exact c0
  have e1 : A4.cell? ⟨w.heap.size, 1, none⟩ = some (.slice none 0 0) := by rw [cellSame (oth _ hne), q03.cell (p := ⟨w.heap.size, 1, none⟩) hwb]; exact c1
  have ef : ∀ i, A4.frozen? ⟨w.heap.size, i, none⟩ = false := fun i => by rw [frozenSame (oth _ hne), q03.frozen (p := ⟨w.heap.size, i, none⟩) hwb]; exact f0 i
  have hw4 : w.heap.size < A4.heap.size := by omega
  have HREAD : Hid (FieldsAt (w.heap.size + 1) A4 (.slice (some ⟨g, 0, none⟩) 10 cap) (headF [a, b] control)) := by
    have hA36 : A4.cell? ⟨g, 6, none⟩ = some (.slice (some ⟨W2.heap.size + 1 + 1, 0, none⟩) 1 1) := by
      have h6 : A3.cell? ⟨g, 6, none⟩ = some u6 := by rw [q03.cell (p := ⟨g, 6, none⟩) hgl]; exact c6
      rw [← hA4]
      exact World.cell?_setCell_same _ _ _ h6
    have hoth : ∀ i, i ≠ 6 → A4.cell? ⟨g, i, none⟩ = W2.cell? ⟨g, i, none⟩ := fun i hi => by
      rw [← q03.cell (p := ⟨g, i, none⟩) hgl, ← hA4]
      exact World.cell?_setCell_other _ _ _ _ (by intro h; simp only [Addr.mk.injEq] at h; omega)
    refine ⟨by simp [headF], .inr ⟨g, 0, cap, rfl, ⟨by omega, by omega⟩, fun i hi => ?_⟩⟩
    have hi10 : i < 10 := hi
    by_cases h6 : i = 6
    · subst h6
      refine ⟨_, hA36, (by decide : 1 ≤ 9223372036854775807), .inr ⟨_, 0, 1, rfl, ⟨by omega, by omega⟩, fun j hj => ?_⟩⟩
      obtain rfl : j = 0 := by simp [headF] at hj; omega
      refine ⟨.slice (some ⟨W2.heap.size + 1, 0, none⟩) 2 2, ?_, (by decide : 2 ≤ 9223372036854775807), .inr ⟨_, 0, 2, rfl, ⟨by omega, by omega⟩, fun k hk => ?_⟩⟩
      · rw [cellSame (oth _ (by omega)), ← hA3, ← t2]; simp
      · have hk2 : k < 2 := hk
        have hkk : A4.cell? ⟨W2.heap.size + 1, 0 + k * 1, none⟩ = A2.cell? ⟨W2.heap.size + 1, k, none⟩ := by
          rw [cellSame (oth _ (by omega)), q3.cell (p := ⟨W2.heap.size + 1, 0 + k * 1, none⟩) (by rw [t2]; simp)]
          simp
        refine ⟨hkk.trans ?_, ?_⟩
        · rw [← hA2, ← t1]
          match k, hk2 with
          | 0, _ => simp [headF]
          | 1, _ => simp [headF]
        · match k, hk2 with
          | 0, _ => simp [headF]; omega
          | 1, _ => simp [headF]; omega
    · obtain ⟨u, bs, k1, k2, k3⟩ := HROW.out i hi10
      have hx : ([[], [], [], [], [], [], wordF a, wordF control, [], wordF v251] : List Field)[i]'hi10 = (headF [a, b] control)[i] := by
        match i, hi10, h6 with
        | 0, _, _ => rfl
        | 1, _, _ => rfl
        | 2, _, _ => rfl
        | 3, _, _ => rfl
        | 4, _, _ => rfl
        | 5, _, _ => rfl
        | 7, _, _ => rfl
        | 8, _, _ => rfl
        | 9, _, _ => rfl
      rw [hx] at k2
      refine ⟨u, ?_, OAt.toAt toAt_rep (OAt.kept keptO_rep k2 (w' := A4) (by omega) fun c hc => ?_) fun c hc => by have := (k3 c hc).1; omega⟩
      · have := hoth i h6
        rw [k1] at this
        simpa using this
      · rw [oth c (k3 c hc).2.2, q03.block c (k3 c hc).2.1]
  have HB4 : Hid (Below w.heap.size w A4) := by rw [← hA4]; exact (bjoin' q03 HB02.out).setCell (by simp; omega) _
  clear hA1 hA2 hA3 hA4 q1 q2 q3 q13 q03 oth HROW HB02 c0 c1 c6 f0 hgf t1 t2 t3
  go_wp2_with fail
  refine bodyPost_ret (v := .agg #[.string ⟨#[77, 83, 72]⟩, .slice (some ⟨g, 0, none⟩) 10 cap]) (by simp [results, Try.results60, go_sem, e0, e1, hw4]) rfl ⟨_, rfl, ?_, ?_⟩
  · refine At.same kept_field HREAD.out ⟨by rw [Deep.nblk_setCell, Deep.nblk_setCell]; exact Nat.le_refl _, fun c h1 h2 => ?_⟩
    rw [Deep.blk_setCell_other, Deep.blk_setCell_other] <;> (simp; omega)
  · exact (HB4.out.setCell (by simp) _).setCell (by simp) _
end Go.Proofs.Ythjilkclppfpdab.Msg

namespace Go.Proofs.Ythjilkclppfpdab.Msg
open Go.ChangeShapes Go.WideShapes Go.ChangeAt Go.RowKit
set_option linter.unusedVariables false
set_option linter.unusedSimpArgs false

/-- component number comp (from 1) of the first repetition of the field at a place (from 0) -/
def pick (fs : List Field) (at_ comp : Int) : ByteArray :=
  if at_ < 0 then ⟨#[]⟩ else match fs[at_.toNat]? with
  | none => ⟨#[]⟩
  | some f => match f with
    | [] => ⟨#[]⟩
    | r :: _ => if comp < 1 then ⟨#[]⟩ else r.getD (comp - 1).toNat ⟨#[]⟩
def getFrom (m : List Seg) (name : ByteArray) (field comp : Int) : ByteArray := match m.find? fun s => s.name.toList == name.toList with
  | none => ⟨#[]⟩
  | some s => pick s.fields (field - if mshB name then 3 else 1) comp

theorem wrap_at (field d : Int) (h0 : -9223372036854775808 ≤ field) (h1 : field ≤ 9223372036854775807) (hd0 : 0 ≤ d) (hd : d ≤ 3) :
    ∃ z, wrap64 (field - d) = z ∧ ((0 ≤ field - d ∧ z = field - d) ∨ (field - d < 0 ∧ (z < 0 ∨ 4611686018427387904 ≤ z))) := by
  refine ⟨_, rfl, ?_⟩
  by_cases h : -9223372036854775808 ≤ field - d
  · have e : wrap64 (field - d) = field - d := by unfold wrap64; omega
    rw [e]
    by_cases h2 : 0 ≤ field - d
    · exact .inl ⟨h2, rfl⟩
    · exact .inr ⟨by omega, .inl (by omega)⟩
  · right
    refine ⟨by omega, .inr ?_⟩
    unfold wrap64; omega

theorem find_take {xs : List Seg} {p : Seg → Bool} {k : Nat} (h : k < xs.length) (h1 : ∀ j (hj : j < xs.length), j < k → p xs[j] = false) (h2 : p xs[k] = true) : xs.find? p = some xs[k] := by
  rw [List.find?_eq_some_iff_getElem]
  exact ⟨h2, k, h, rfl, fun j hj => by rw [h1 j (by omega) hj]; rfl⟩
theorem find_none {xs : List Seg} {p : Seg → Bool} (h1 : ∀ j (hj : j < xs.length), p xs[j] = false) : xs.find? p = none := by
  rw [List.find?_eq_none]
  intro x hx
  obtain ⟨j, hj, rfl⟩ := List.getElem_of_mem hx
  simp [h1 j hj]

set_option maxRecDepth 100000 in
set_option maxHeartbeats 2000000 in
theorem getSpec_any (xs : List Seg) (name : ByteArray) (field comp : Int) (v : Value) (w : World) (hn : name.size ≤ 9223372036854775807) (hl2 : xs.length ≤ 1048576) (hf0 : -9223372036854775808 ≤ field) (hf1 : field ≤ 9223372036854775807)
    (hc0 : -9223372036854775808 ≤ comp) (hc1 : comp ≤ 9223372036854775807) {lo : Nat} (hv : SegsAt lo w v xs) (hfl : ∀ i (h : i < xs.length), xs[i].fields.length ≤ 1048576) :
    Calls Try.prog 25 #[.agg #[v], .string name, .int .i64 field, .int .i64 comp] w fun e w' => e = .returned (.string (getFrom xs name field comp)) ∧ Below w.heap.size w w' := by
  have hb := (Below.refl w.heap.size w).alloc (Nat.le_refl _) (Obj.cells #[v] 43)
  obtain ⟨a, cap, rfl, hc⟩ := (At.kept kept_seg hv hb).form
  have HC := hide hc
  have HFL := hide hfl
  clear hc hv hfl
  have HB : Hid ((-9223372036854775808 ≤ field ∧ field ≤ 9223372036854775807) ∧ -9223372036854775808 ≤ comp ∧ comp ≤ 9223372036854775807) := ⟨⟨hf0, hf1⟩, hc0, hc1⟩
  clear hf0 hf1 hc0 hc1
  have HG : Hid (getFrom xs name field comp = match xs.find? fun s => s.name.toList == name.toList with
    | none => ⟨#[]⟩
    | some s => pick s.fields (field - if mshB name then 3 else 1) comp) := rfl
  go_enter Try.func25, Try.ntmps25
  go_wp2_with fail
  go_loop [9] (fun i => ∃ k : Nat, k ≤ xs.length ∧ i = .int .i64 k ∧ ∀ j (hj : j < xs.length), j < k → (xs[j].name.toList == name.toList) = false) (fun i => xs.length - (intOf i).toNat)
  case atStart => exact ⟨0, Nat.zero_le _, rfl, fun j _ h => absurd h (by omega)⟩
  case round =>
    obtain ⟨k, hk, rfl, hall⟩ := hrel
    have HA := hide hall
    clear hall
    by_cases hlt : k < xs.length
    · obtain ⟨b, off, rfl, _, hbl, hc0', hns, ve, hc1', hel⟩ := HC.out k hlt
      obtain ⟨a2, cap2, rfl, hcf⟩ := hel.form
      have HF := hide hcf
      have hfl := HFL.out k hlt
      clear hcf hel
      cases he : (xs[k].name.toList == name.toList)
      · have HGo : Hid (∀ j (hj : j < xs.length), j < k + 1 → (xs[j].name.toList == name.toList) = false) := fun j hj h => by
          by_cases e : j = k
          · subst e; exact he
          · exact HA.out j hj (by omega)
        go_wp2_with fail
        go_round
        case rel => exact ⟨k + 1, by omega, by go_num, HGo.out⟩
        case measure => simp [intOf]; omega
      · have HMd : Hid (mshB name = (name.toList == [77, 83, 72])) := rfl
        cases hm : (name.toList == [77, 83, 72])
        · have HM : Hid ((if mshB name = true then (3 : Int) else 1) = 1) := by rw [HMd.out, hm]; exact rfl
          obtain ⟨z, hz, hzc⟩ := wrap_at field 1 HB.out.1.1 HB.out.1.2 (by omega) (by omega)
          have HP : Hid (getFrom xs name field comp = pick xs[k].fields (field - 1) comp) := by
            rw [HG.out, find_take hlt HA.out he, HM.out]; exact rfl
          rcases hzc with ⟨hz0, hzd⟩ | ⟨hz0, hzd⟩
          · by_cases hq : z < (xs[k].fields.length : Int)
            · obtain ⟨q, rfl⟩ := Int.eq_ofNat_of_zero_le (show 0 ≤ z by omega)
              have hq' : q < xs[k].fields.length := by omega
              have hq0 : (0 : Int) ≤ (q : Int) := by omega
              obtain ⟨b2, off2, rfl, _, hbl2, vf, hcf, helf⟩ := HF.out q hq'
              have hcf' : (w.alloc (Obj.cells #[.slice (some ⟨b, off, none⟩) xs.length cap] 43)).cell? ⟨b2, off2 + q, none⟩ = some vf := by simpa using hcf
              obtain ⟨a3, cap3, rfl, hcr⟩ := helf.form
              have hl3 : xs[k].fields[q].length ≤ 9223372036854775807 := helf.1
              have HP2 : Hid (pick xs[k].fields (field - 1) comp = match xs[k].fields[q] with
                | [] => ⟨#[]⟩
                | r :: _ => if comp < 1 then ⟨#[]⟩ else r.getD (comp - 1).toNat ⟨#[]⟩) := by
                unfold pick
                rw [← hzd, if_neg (by omega), Int.toNat_natCast, List.getElem?_eq_getElem hq']; exact rfl
              have HZD := hide hzd
              clear hzd hcf helf
              cases hfq : xs[k].fields[q] with
              | nil =>
                have h30 : ((xs[k].fields[q].length : Int) == 0) = true := by rw [hfq]; rfl
                have HX : Hid (getFrom xs name field comp = ⟨#[]⟩) := by rw [HP.out, HP2.out, hfq]; exact rfl
                clear hfq hcr
                go_wp2_with fail
                go_ret
                exact ⟨ret_string HX.out.symm, hb⟩
              | cons r rs =>
                have h30 : ((xs[k].fields[q].length : Int) == 0) = false := by rw [hfq, beq_eq_false_iff_ne, List.length_cons]; omega
                have h3p : (0 : Int) < (xs[k].fields[q].length : Int) := by rw [hfq, List.length_cons]; omega
                have h3n : 0 < xs[k].fields[q].length := by omega
                obtain ⟨b3, off3, rfl, _, hbl3, vr, hcr0, helr⟩ := hcr 0 h3n
                have hr0 : xs[k].fields[q][0]'h3n = r := by simp [hfq]
                rw [hr0] at helr
                have hcr0' : (w.alloc (Obj.cells #[.slice (some ⟨b, off, none⟩) xs.length cap] 43)).cell? ⟨b3, off3, none⟩ = some vr := by simpa using hcr0
                obtain ⟨a4, cap4, rfl, hcc⟩ := helr.form
                have hl4 : r.length ≤ 9223372036854775807 := helr.1
                have HP3 : Hid (getFrom xs name field comp = if comp < 1 then ⟨#[]⟩ else r.getD (comp - 1).toNat ⟨#[]⟩) := by rw [HP.out, HP2.out, hfq]; exact rfl
                have HCC := hide hcc
                clear hfq hcr hcr0 helr hr0 hcc
                by_cases hc1 : comp < 1
                · have HX : Hid (getFrom xs name field comp = ⟨#[]⟩) := by rw [HP3.out, if_pos hc1]; exact rfl
                  go_wp2_with fail
                  go_ret
                  exact ⟨ret_string HX.out.symm, hb⟩
                · by_cases hc2 : (r.length : Int) < comp
                  · have HX : Hid (getFrom xs name field comp = ⟨#[]⟩) := by
                      rw [HP3.out, if_neg hc1, List.getD_eq_getElem?_getD, List.getElem?_eq_none (by omega)]; exact rfl
                    go_wp2_with fail
                    go_ret
                    exact ⟨ret_string HX.out.symm, hb⟩
                  · obtain ⟨y, rfl⟩ : ∃ y : Nat, comp = (y : Int) + 1 := ⟨(comp - 1).toNat, by omega⟩
                    have hy : y < r.length := by omega
                    obtain ⟨b4, off4, rfl, _, hbl4, hc4, _⟩ := HCC.out y hy
                    have hc4' : (w.alloc (Obj.cells #[.slice (some ⟨b, off, none⟩) xs.length cap] 43)).cell? ⟨b4, off4 + y, none⟩ = some (.string r[y]) := by simpa using hc4
                    have HX : Hid (getFrom xs name field (↑y + 1) = r[y]) := by
                      rw [HP3.out, if_neg hc1, List.getD_eq_getElem?_getD, show ((y : Int) + 1 - 1).toNat = y by omega, List.getElem?_eq_getElem hy]; exact rfl
                    clear hc4
                    go_wp2_with fail
                    go_ret
                    exact ⟨ret_string HX.out.symm, hb⟩
            · have HX : Hid (getFrom xs name field comp = ⟨#[]⟩) := by
                rw [HP.out]; unfold pick
                rw [if_neg (by omega), List.getElem?_eq_none (by omega)]; exact rfl
              have hzp : 0 ≤ z := by omega
              have HZD := hide hzd
              clear hzd
              go_wp2_with fail
              go_ret
              exact ⟨ret_string HX.out.symm, hb⟩
          · have HX : Hid (getFrom xs name field comp = ⟨#[]⟩) := by
              rw [HP.out]; unfold pick
              rw [if_pos (by omega)]; exact rfl
            rcases hzd with hzd | hzd
            · go_wp2_with fail
              go_ret
              exact ⟨ret_string HX.out.symm, hb⟩
            · have hzp : 0 ≤ z := by omega
              have hzl : (xs[k].fields.length : Int) ≤ z := by omega
              go_wp2_with fail
              go_ret
              exact ⟨ret_string HX.out.symm, hb⟩
        · have HM : Hid ((if mshB name = true then (3 : Int) else 1) = 3) := by rw [HMd.out, hm]; exact rfl
          obtain ⟨z, hz, hzc⟩ := wrap_at field 3 HB.out.1.1 HB.out.1.2 (by omega) (by omega)
          have HP : Hid (getFrom xs name field comp = pick xs[k].fields (field - 3) comp) := by
            rw [HG.out, find_take hlt HA.out he, HM.out]; exact rfl
          rcases hzc with ⟨hz0, hzd⟩ | ⟨hz0, hzd⟩
          · by_cases hq : z < (xs[k].fields.length : Int)
            · obtain ⟨q, rfl⟩ := Int.eq_ofNat_of_zero_le (show 0 ≤ z by omega)
              have hq' : q < xs[k].fields.length := by omega
              have hq0 : (0 : Int) ≤ (q : Int) := by omega
              obtain ⟨b2, off2, rfl, _, hbl2, vf, hcf, helf⟩ := HF.out q hq'
              have hcf' : (w.alloc (Obj.cells #[.slice (some ⟨b, off, none⟩) xs.length cap] 43)).cell? ⟨b2, off2 + q, none⟩ = some vf := by simpa using hcf
              obtain ⟨a3, cap3, rfl, hcr⟩ := helf.form
              have hl3 : xs[k].fields[q].length ≤ 9223372036854775807 := helf.1
              have HP2 : Hid (pick xs[k].fields (field - 3) comp = match xs[k].fields[q] with
                | [] => ⟨#[]⟩
                | r :: _ => if comp < 1 then ⟨#[]⟩ else r.getD (comp - 1).toNat ⟨#[]⟩) := by
                unfold pick
                rw [← hzd, if_neg (by omega), Int.toNat_natCast, List.getElem?_eq_getElem hq']; exact rfl
              have HZD := hide hzd
              clear hzd hcf helf
              cases hfq : xs[k].fields[q] with
              | nil =>
                have h30 : ((xs[k].fields[q].length : Int) == 0) = true := by rw [hfq]; rfl
                have HX : Hid (getFrom xs name field comp = ⟨#[]⟩) := by rw [HP.out, HP2.out, hfq]; exact rfl
                clear hfq hcr
                go_wp2_with fail
                go_ret
                exact ⟨ret_string HX.out.symm, hb⟩
              | cons r rs =>
                have h30 : ((xs[k].fields[q].length : Int) == 0) = false := by rw [hfq, beq_eq_false_iff_ne, List.length_cons]; omega
                have h3p : (0 : Int) < (xs[k].fields[q].length : Int) := by rw [hfq, List.length_cons]; omega
                have h3n : 0 < xs[k].fields[q].length := by omega
                obtain ⟨b3, off3, rfl, _, hbl3, vr, hcr0, helr⟩ := hcr 0 h3n
                have hr0 : xs[k].fields[q][0]'h3n = r := by simp [hfq]
                rw [hr0] at helr
                have hcr0' : (w.alloc (Obj.cells #[.slice (some ⟨b, off, none⟩) xs.length cap] 43)).cell? ⟨b3, off3, none⟩ = some vr := by simpa using hcr0
                obtain ⟨a4, cap4, rfl, hcc⟩ := helr.form
                have hl4 : r.length ≤ 9223372036854775807 := helr.1
                have HP3 : Hid (getFrom xs name field comp = if comp < 1 then ⟨#[]⟩ else r.getD (comp - 1).toNat ⟨#[]⟩) := by rw [HP.out, HP2.out, hfq]; exact rfl
                have HCC := hide hcc
                clear hfq hcr hcr0 helr hr0 hcc
                by_cases hc1 : comp < 1
                · have HX : Hid (getFrom xs name field comp = ⟨#[]⟩) := by rw [HP3.out, if_pos hc1]; exact rfl
                  go_wp2_with fail
                  go_ret
                  exact ⟨ret_string HX.out.symm, hb⟩
                · by_cases hc2 : (r.length : Int) < comp
                  · have HX : Hid (getFrom xs name field comp = ⟨#[]⟩) := by
                      rw [HP3.out, if_neg hc1, List.getD_eq_getElem?_getD, List.getElem?_eq_none (by omega)]; exact rfl
                    go_wp2_with fail
                    go_ret
                    exact ⟨ret_string HX.out.symm, hb⟩
                  · obtain ⟨y, rfl⟩ : ∃ y : Nat, comp = (y : Int) + 1 := ⟨(comp - 1).toNat, by omega⟩
                    have hy : y < r.length := by omega
                    obtain ⟨b4, off4, rfl, _, hbl4, hc4, _⟩ := HCC.out y hy
                    have hc4' : (w.alloc (Obj.cells #[.slice (some ⟨b, off, none⟩) xs.length cap] 43)).cell? ⟨b4, off4 + y, none⟩ = some (.string r[y]) := by simpa using hc4
                    have HX : Hid (getFrom xs name field (↑y + 1) = r[y]) := by
                      rw [HP3.out, if_neg hc1, List.getD_eq_getElem?_getD, show ((y : Int) + 1 - 1).toNat = y by omega, List.getElem?_eq_getElem hy]; exact rfl
                    clear hc4
                    go_wp2_with fail
                    go_ret
                    exact ⟨ret_string HX.out.symm, hb⟩
            · have HX : Hid (getFrom xs name field comp = ⟨#[]⟩) := by
                rw [HP.out]; unfold pick
                rw [if_neg (by omega), List.getElem?_eq_none (by omega)]; exact rfl
              have hzp : 0 ≤ z := by omega
              have HZD := hide hzd
              clear hzd
              go_wp2_with fail
              go_ret
              exact ⟨ret_string HX.out.symm, hb⟩
          · have HX : Hid (getFrom xs name field comp = ⟨#[]⟩) := by
              rw [HP.out]; unfold pick
              rw [if_pos (by omega)]; exact rfl
            rcases hzd with hzd | hzd
            · go_wp2_with fail
              go_ret
              exact ⟨ret_string HX.out.symm, hb⟩
            · have hzp : 0 ≤ z := by omega
              have hzl : (xs[k].fields.length : Int) ≤ z := by omega
              go_wp2_with fail
              go_ret
              exact ⟨ret_string HX.out.symm, hb⟩
    · have HX : Hid (getFrom xs name field comp = ⟨#[]⟩) := by
        rw [HG.out, find_none fun j hj => HA.out j hj (by omega)]; exact rfl
      go_wp2_with fail
      go_ret
      exact ⟨ret_string HX.out.symm, hb⟩
end Go.Proofs.Ythjilkclppfpdab.Msg
