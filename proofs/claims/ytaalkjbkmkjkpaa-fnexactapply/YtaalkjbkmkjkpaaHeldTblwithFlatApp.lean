import Derived.Test.YtaalkjbkmkjkpaaMarkWantwithMarkTbl
import Derived.Test.YtaalkjbkmkjkpaaMarkSegwithHeldMsg
import Derived.Test.YtaalkjbkmkjkpaaMarkMsgwithFlatKit
import Derived.Test.YtaalkjbkmkjkpaaMarkDatawithMarkStr
import Derived.Maps.AppendAt
import Derived.OwnWalk
import Derived.Laws.Rows
import Derived.Maps.Own
namespace Go.Proofs.Ytaalkjbkmkjkpaa.Msg
open Go.ChangeShapes Go.WideShapes Go.ChangeAt Go.RowKit
set_option linter.unusedVariables false
set_option linter.unusedSimpArgs false

/-! the marks of a table are found again -/
theorem heldStrs_int (x : Int) (k : Nat) (hx : x = (k : Int)) (xs : List ByteArray) (v : Value) (w : World) (hk : 1 ≤ k) (hkb : k + cRep xs ≤ 4611686018427387904) {lo : Nat} (hv : StrsAt lo w v (mkRep k xs)) :
    Calls Try.prog 60 #[v, .int .i64 x] w fun e w' => e = .returned (.int .i64 ((k + cRep xs : Nat) : Int)) ∧ Below w.heap.size w w' := by
  subst hx
  exact heldStrs_any xs v k w hk hkb hv
set_option maxRecDepth 100000 in
set_option maxHeartbeats 4000000 in
theorem heldSesss_any (xs : List Sess) (v : Value) (k : Nat) (w : World) (hk : 1 ≤ k) (hkb : k + cTbl xs ≤ 4611686018427387904) {lo : Nat} (hv : SesssAt lo w v (mkTbl k xs)) :
    Calls Try.prog 33 #[v, .int .i64 (k : Int)] w fun e w' => e = .returned (.int .i64 ((k + cTbl xs : Nat) : Int)) ∧ Below w.heap.size w w' := by
  have hl : xs.length ≤ 9223372036854775807 := by have := hv.1; unfold mkTbl at this; rw [mkL_len] at this; exact this
  have HCF : Hid (cTbl xs = sumOf cSess xs) := rfl
  obtain ⟨a, cap, rfl, hc⟩ := mkL_form hv
  have HC := hide hc
  clear hc hv
  go_enter Try.func33, Try.ntmps33
  go_wp2
  go_loopw [1, 5] (fun r i w1 => ∃ j K : Nat, j ≤ xs.length ∧ K = k + sumOf cSess (xs.take j) ∧ i = .int .i64 j ∧ r = .int .i64 (K : Int) ∧ Below w.heap.size w w1) (fun _ i _ => xs.length - (intOf i).toNat)
  case atStart => exact ⟨0, k, Nat.zero_le _, by simp [sumOf], rfl, rfl, Below.refl _ _⟩
  case round =>
    obtain ⟨j, K, hj, hK, rfl, rfl, hb⟩ := hrel
    by_cases hj2 : j < xs.length
    · obtain ⟨b, off, rfl, hbl, g⟩ := HC.out j hj2
      rw [← hK] at g
      have hst := sum_take cSess xs j hj2
      have hsl := sum_le cSess xs (j + 1)
      have hcf := HCF.out
      have hcs : cSess xs[j] = 6 + cRep xs[j].rows := rfl
      have hroom : K + 6 + cRep xs[j].rows ≤ 4611686018427387904 := by omega
      have hK1 : 1 ≤ K := by omega
      have HST : Hid (k + sumOf cSess (xs.take (j + 1)) = K + 6 + cRep xs[j].rows) := by show _ = _; omega
      obtain ⟨x, hx⟩ : ∃ x, xs[j] = x := ⟨_, rfl⟩
      rw [hx] at g hroom HST
      obtain ⟨cr, hcr⟩ : ∃ n, cRep x.rows = n := ⟨_, rfl⟩
      have HCR := hide hcr
      rw [hcr] at hroom HST
      obtain ⟨p, hp⟩ : ∃ p, off + j * 7 = p := ⟨_, rfl⟩
      rw [hp] at g
      obtain ⟨g0, g1, g2, g3, g4, g6, _, _, ve, g5, hel⟩ := g
      have HEL : Hid (StrsAt lo w ve (mkRep (K + 5) x.rows)) := hel
      have HG : Hid (∀ U, Below w.heap.size w U → (U.cell? ⟨b, p, none⟩ = some (.int .i64 (K : Int)) ∧ U.cell? ⟨b, p + 1, none⟩ = some (.string (markT (K + 1))) ∧ U.cell? ⟨b, p + 2, none⟩ = some (.string (markT (K + 2))) ∧ U.cell? ⟨b, p + 3, none⟩ = some (.int .i64 ((K : Int) + 1 + 1 + 1)) ∧ U.cell? ⟨b, p + 4, none⟩ = some (.int .i64 ((K : Int) + 1 + 1 + 1 + 1)) ∧ U.cell? ⟨b, p + 5, none⟩ = some ve ∧ U.cell? ⟨b, p + 6, none⟩ = some (.int .i64 ((K + 5 + cr : Nat) : Int))) ∧ Below w.heap.size w U) := fun U h => by
        refine ⟨⟨(h.cell (p := ⟨b, p, none⟩) hbl).trans g0, (h.cell (p := ⟨b, p + 1, none⟩) hbl).trans g1, (h.cell (p := ⟨b, p + 2, none⟩) hbl).trans g2, ?_, ?_, (h.cell (p := ⟨b, p + 5, none⟩) hbl).trans g5, ?_⟩, h⟩
        · exact (h.cell (p := ⟨b, p + 3, none⟩) hbl).trans (g3.trans (congrArg some (int_same (by show ((K + 3 : Nat) : Int) = _; omega))))
        · exact (h.cell (p := ⟨b, p + 4, none⟩) hbl).trans (g4.trans (congrArg some (int_same (by show ((K + 4 : Nat) : Int) = _; omega))))
        · exact (h.cell (p := ⟨b, p + 6, none⟩) hbl).trans (g6.trans (congrArg some (int_same (by show ((K + 5 + cRep x.rows : Nat) : Int) = _; rw [hcr]))))
      have hi : (j : Int) < (xs.length : Int) := by omega
      have hi0 : (0 : Int) ≤ (j : Int) := by omega
      have HB := hide hb
      have hd0 := hb.drew
      obtain ⟨⟨c0, _⟩, _⟩ := HG.out wr hb
      clear hst hsl hcf hcs hK hx hcr g0 g1 g2 g3 g4 g5 g6 hel hb
      go_wp2_with fail
      go_region_held3 (fun U => (U.cell? ⟨b, p, none⟩ = some (.int .i64 (K : Int)) ∧ U.cell? ⟨b, p + 1, none⟩ = some (.string (markT (K + 1))) ∧ U.cell? ⟨b, p + 2, none⟩ = some (.string (markT (K + 2))) ∧ U.cell? ⟨b, p + 3, none⟩ = some (.int .i64 ((K : Int) + 1 + 1 + 1)) ∧ U.cell? ⟨b, p + 4, none⟩ = some (.int .i64 ((K : Int) + 1 + 1 + 1 + 1)) ∧ U.cell? ⟨b, p + 5, none⟩ = some ve ∧ U.cell? ⟨b, p + 6, none⟩ = some (.int .i64 ((K + 5 + cr : Nat) : Int))) ∧ Below w.heap.size w U)
        (first | exact HG.out _ hd0 | exact HG.out _ hx0)
        ((go_at_call 59; refine (markText_int _ (K + 1) (by omega) _ (by omega) (by omega)).mono ?_; rintro e w2 ⟨rfl, hb2⟩; have hx0 : Below w.heap.size w w2 := bjoin hb2 (by assumption)))
      clear hd0
      have hd1 := hx0.drew
      go_wp2_with fail
      go_region_held3 (fun U => (U.cell? ⟨b, p, none⟩ = some (.int .i64 (K : Int)) ∧ U.cell? ⟨b, p + 1, none⟩ = some (.string (markT (K + 1))) ∧ U.cell? ⟨b, p + 2, none⟩ = some (.string (markT (K + 2))) ∧ U.cell? ⟨b, p + 3, none⟩ = some (.int .i64 ((K : Int) + 1 + 1 + 1)) ∧ U.cell? ⟨b, p + 4, none⟩ = some (.int .i64 ((K : Int) + 1 + 1 + 1 + 1)) ∧ U.cell? ⟨b, p + 5, none⟩ = some ve ∧ U.cell? ⟨b, p + 6, none⟩ = some (.int .i64 ((K + 5 + cr : Nat) : Int))) ∧ Below w.heap.size w U)
        (first | exact HG.out _ hd1 | exact HG.out _ hx1)
        ((go_at_call 59; refine (markText_int _ (K + 2) (by omega) _ (by omega) (by omega)).mono ?_; rintro e w3 ⟨rfl, hb2⟩; have hx1 : Below w.heap.size w w3 := bjoin hb2 (by assumption)))
      clear hd1
      obtain ⟨⟨_, _, _, k3, k4, k5, _⟩, _⟩ := HG.out w3 hx1
      go_wp2_with fail
      refine (heldStrs_int _ (K + 5) (by omega) x.rows ve _ (by omega) (by rw [HCR.out]; omega) (At.kept kept_str HEL.out hx1)).mono ?_
      rintro e w4 ⟨rfl, hb4⟩
      have hx2 : Below w.heap.size w w4 := bjoin hb4 hx1
      rw [HCR.out]
      have hpos : ¬ (((K + 5 + cr : Nat) : Int)) < 0 := by omega
      obtain ⟨⟨_, _, _, _, _, _, k6⟩, _⟩ := HG.out w4 hx2
      clear hb4 k3 k4 k5
      go_wp2_with fail
      go_roundw
      case rel => exact ⟨j + 1, K + 6 + cr, by omega, HST.out.symm, by go_num, by go_num, hx2⟩
      case measure => simp [intOf]; omega
    · obtain rfl : j = xs.length := by omega
      go_wp2_with fail
      go_ret
      exact ⟨ret_int (by rw [HCF.out, hK, List.take_length]), hb⟩
set_option maxHeartbeats 400000 in
theorem heldTbl_any (xs : List Sess) (v : Value) (k : Nat) (w : World) (hk : 1 ≤ k) (hkb : k + cTbl xs ≤ 4611686018427387904) {lo : Nat} (hv : SesssAt lo w v (mkTbl k xs)) :
    Calls Try.prog 14 #[.agg #[v], .int .i64 (k : Int)] w fun e w' => e = .returned (.int .i64 ((k + cTbl xs : Nat) : Int)) ∧ Below w.heap.size w w' := by
  have hb := (Below.refl w.heap.size w).alloc (Nat.le_refl _) (Obj.cells #[v] 32)
  have hv1 := At.kept kept_sess hv hb
  have hpos : ¬ (((k + cTbl xs : Nat) : Int)) < 0 := by omega
  go_enter Try.func14, Try.ntmps14
  go_wp2_with fail
  refine (heldSesss_any xs v k _ hk hkb hv1).mono ?_
  rintro e w' ⟨rfl, hb2⟩
  go_wp2_with fail
  go_ret
  exact ⟨rfl, bjoin hb2 hb⟩
end Go.Proofs.Ytaalkjbkmkjkpaa.Msg

namespace Go.Proofs.Ytaalkjbkmkjkpaa.Msg
open Go.ChangeShapes Go.WideShapes Go.ChangeAt Go.RowKit
set_option linter.unusedVariables false
set_option linter.unusedSimpArgs false

/-! a block of plain cells -/
def Box (w : World) (b : Nat) (t : TypeId) (cs : Array Value) : Prop := w.heap[b]? = some (.cells cs t (0, 0))
theorem Box.lt {w : World} {b : Nat} {t : TypeId} {cs : Array Value} (h : Box w b t cs) : b < w.heap.size := by
  unfold Box at h
  rw [Array.getElem?_eq_some_iff] at h
  exact h.1
theorem Box.cell {w : World} {b : Nat} {t : TypeId} {cs : Array Value} (h : Box w b t cs) (i : Nat) (hi : i < cs.size) : w.cell? ⟨b, i, none⟩ = some cs[i] := by
  unfold Box at h
  simp [World.cell?, h, hi]
theorem Box.frozen {w : World} {b : Nat} {t : TypeId} {cs : Array Value} (h : Box w b t cs) (i : Nat) : w.frozen? ⟨b, i, none⟩ = false := by
  unfold Box at h
  simp [World.frozen?, h]
theorem Box.keep {w w' : World} {b : Nat} {t : TypeId} {cs : Array Value} (h : Box w b t cs) (e : w'.heap[b]? = w.heap[b]?) : Box w' b t cs := by
  unfold Box at *
  rw [e]
  exact h
theorem Box.set {w : World} {b : Nat} {t : TypeId} {cs : Array Value} (h : Box w b t cs) (i : Nat) (v : Value) : Box (w.setCell ⟨b, i, none⟩ v) b t (cs.setIfInBounds i v) :=
  heap_setCell_same w b i cs t v h
theorem Box.other {w : World} {b : Nat} {t : TypeId} {cs : Array Value} (h : Box w b t cs) {a : Addr} (ha : b ≠ a.block) (v : Value) : Box (w.setCell a v) b t cs :=
  h.keep (Deep.blk_setCell_other _ _ _ _ ha)
theorem Box.new (w : World) (t : TypeId) (cs : Array Value) : Box (w.alloc (.cells cs t)) w.heap.size t cs := by
  exact (MapKept.heap_alloc w _).1
theorem Box.alloc {w : World} {b : Nat} {t : TypeId} {cs : Array Value} (h : Box w b t cs) (o : Obj) : Box (w.alloc o) b t cs :=
  h.keep ((((Below.refl w.heap.size w).alloc (Nat.le_refl _) o)).block b h.lt)
theorem Box.below {w w' : World} {b : Nat} {t : TypeId} {cs : Array Value} (h : Box w b t cs) (hb : Below w.heap.size w w') : Box w' b t cs := h.keep (hb.block b h.lt)
theorem Box.only {bs : List Nat} {w w' : World} {b : Nat} {t : TypeId} {cs : Array Value} (h : Box w b t cs) (hb : Only bs w w') (hn : b ∉ bs) : Box w' b t cs := h.keep (hb.block b h.lt hn)

/-! an append whose run is known -/
theorem step_app {ops : Array Oper} {o : Oper} {a : Act} {K : Act → World → Prop} {Q : Exit → Act → World → Prop} {E : Prop} {w w' : World} {v y v' : Value} (hgd : o.guard = none) (s x : Operand) (t : TypeId)
    (ho : o.op = .call { callee := .builtin .append, args := #[s, x], argTypes := #[t, t] }) (hr : (Builtin.append_ #[t, t] o.type #[v, y]).run Try.prog w = .ok v' w') (hs : a.eval s = v) (hx : a.eval x = y) (h : K (a.put o.dst v') w') :
    if Region.wanted o (yielded ops a.tmps) = true then Oper.wp Try.prog o a w K Q else E := by
  have hw : Region.wanted o (yielded ops a.tmps) = true := by simp [Region.wanted, hgd]
  rw [if_pos hw]
  unfold Oper.wp execOp
  simp only [ho, resolve, invoke, builtin, Sem.run_bind, Sem.run_pure, Result.andThen_ok, List.map_toArray, List.map_cons, List.map_nil, hs, hx, hr]
  exact h
theorem wpList_app {ops : Array Oper} {rest : List Oper} {o : Oper} {a : Act} {Q : Exit → Act → World → Prop} {w w' : World} {v y v' : Value} (hgd : o.guard = none) (s x : Operand) (t : TypeId)
    (ho : o.op = .call { callee := .builtin .append, args := #[s, x], argTypes := #[t, t] }) (hr : (Builtin.append_ #[t, t] o.type #[v, y]).run Try.prog w = .ok v' w') (hs : a.eval s = v) (hx : a.eval x = y) (h : wpList Try.prog ops Q rest (a.put o.dst v') w') :
    wpList Try.prog ops Q (o :: rest) a w := by
  refine wpList_plain hgd fun K hK => ?_
  unfold Oper.wp execOp
  simp only [ho, resolve, invoke, builtin, Sem.run_bind, Sem.run_pure, Result.andThen_ok, List.map_toArray, List.map_cons, List.map_nil, hs, hx, hr]
  exact hK _ _ h

/-- a list of plain elements that is being built -/
def FB {α : Type} (C : α → List Value) (c : Nat) (e : TypeId) (base : Nat) (w : World) (v : Value) (xs : List α) : Prop := w.ownsRow base e c v xs.length (flat C xs)
theorem FB.nil {α : Type} (C : α → List Value) (c : Nat) (e : TypeId) (base : Nat) (w : World) : FB C c e base w (.slice none 0 0) [] := ⟨by simp [flat], .inl ⟨rfl, rfl⟩⟩
theorem FB.lit {α : Type} (C : α → List Value) (c : Nat) (e : TypeId) (w : World) : FB C c e w.heap.size (w.alloc (.cells #[] e)) (.slice (some ⟨w.heap.size, 0, none⟩) 0 0) [] :=
  World.ownsRow_lit (base := w.heap.size) (e := e) (size := c) w #[] 0 (Nat.le_refl _) (by unfold maxLen; omega) (by simp)
theorem FB.form {α : Type} {C : α → List Value} {c : Nat} {e : TypeId} {base : Nat} {w : World} {v : Value} {xs : List α} (h : FB C c e base w v xs) : ∃ a cap, v = .slice a xs.length cap ∧ xs.length ≤ cap ∧ cap ≤ 9223372036854775807 := by
  obtain ⟨_, ⟨rfl, h0⟩ | ⟨g, cap, cur, rfl, hg, _, hc, hm, _⟩⟩ := h
  · exact ⟨none, 0, by rw [h0], by omega, by omega⟩
  · exact ⟨_, _, rfl, hc, by unfold maxLen at hm; omega⟩
theorem FB.own {α : Type} {C : α → List Value} {c : Nat} {e : TypeId} {base : Nat} {w : World} {v : Value} {xs : List α} (h : FB C c e base w v xs) : ∀ b ∈ v.ownBlock.toList, base ≤ b ∧ b < w.heap.size := by
  obtain ⟨_, ⟨rfl, h0⟩ | ⟨g, cap, cur, rfl, hg, hs, _⟩⟩ := h
  · intro b hb; simp [Value.ownBlock] at hb
  · intro b hb
    simp [Value.ownBlock] at hb
    subst hb
    rw [Array.getElem?_eq_some_iff] at hs
    exact ⟨hg, hs.1⟩
theorem FB.keep {α : Type} {C : α → List Value} {c : Nat} {e : TypeId} {base : Nat} {w w' : World} {v : Value} {xs : List α} (h : FB C c e base w v xs) (hb : ∀ b ∈ v.ownBlock.toList, w'.heap[b]? = w.heap[b]?) : FB C c e base w' v xs := by
  unfold FB at *
  obtain ⟨h0, ⟨rfl, h1⟩ | ⟨g, cap, cur, rfl, hg, hh, rest⟩⟩ := h
  · exact ⟨h0, .inl ⟨rfl, h1⟩⟩
  · exact ⟨h0, .inr ⟨g, cap, cur, rfl, hg, by rw [hb g (by simp [Value.ownBlock])]; exact hh, rest⟩⟩
theorem FB.below {α : Type} {C : α → List Value} {c : Nat} {e : TypeId} {base : Nat} {w w' : World} {v : Value} {xs : List α} (h : FB C c e base w v xs) (hb : Below w.heap.size w w') : FB C c e base w' v xs :=
  h.keep fun b hb' => hb.block b (h.own b hb').2
theorem FB.only {α : Type} {C : α → List Value} {c : Nat} {e : TypeId} {base : Nat} {bs : List Nat} {w w' : World} {v : Value} {xs : List α} (h : FB C c e base w v xs) (hb : Only bs w w') (hn : ∀ b ∈ v.ownBlock.toList, b ∉ bs) : FB C c e base w' v xs :=
  h.keep fun b hb' => hb.block b (h.own b hb').2 (hn b hb')
theorem FB.at {α : Type} {C : α → List Value} {c : Nat} {e : TypeId} {Z : α → Prop} (hC : ∀ x, (C x).length = c) {base : Nat} {w : World} {v : Value} {xs : List α} (h : FB C c e base w v xs) (hl : xs.length ≤ 9223372036854775807) (hZ : ∀ i (h : i < xs.length), Z xs[i]) :
    At c (FR C Z) base w v xs := by
  obtain ⟨bs, h1, h2, _⟩ := FO.of_own hC h hl
  exact h1.at hC hZ fun b hb => (h2 b hb).1

/-- the element's cells, laid for an append -/
theorem news_cells {w : World} (cs : List Value) (e : TypeId) : ∀ j u, cs[j]? = some u → (w.alloc (.cells cs.toArray e)).cell? ((⟨w.heap.size, 0, none⟩ : Addr).add j) = some u := by
  intro j u hu
  have hj : j < cs.length := by
    by_cases hj : j < cs.length
    · exact hj
    · rw [List.getElem?_eq_none (by omega)] at hu; cases hu
  have := (Box.new w e cs.toArray).cell j (by simpa using hj)
  rw [List.getElem?_eq_getElem hj] at hu
  injection hu with hu
  subst hu
  have e2 : ((⟨w.heap.size, 0, none⟩ : Addr).add j) = ⟨w.heap.size, j, none⟩ := by
    simp only [Addr.add, Nat.zero_add]
    by_cases h0 : j = 0
    · subst h0; simp
    · rw [if_neg h0]
  rw [e2, this]
  simp
/-- one element more -/
theorem app1 {α : Type} {C : α → List Value} {c bytes : Nat} {t e : TypeId} {z : Value} (ht : Try.prog.underlying t = some (.slice e)) (hinfo : (Try.prog.info? e).map (fun i => (i.zero, i.size, i.bytes)) = some (some z, c, bytes)) (hz : z.cells.size = c) (hc : 0 < c)
    (hC : ∀ x, (C x).length = c) (h1 : ∀ x, ∀ u ∈ C x, u.oneCell' = true) {base : Nat} {w : World} {v : Value} {xs : List α} (h : FB C c e base w v xs) (ty : TypeId) (x : α) (hb : base ≤ w.heap.size) (hl : xs.length ≤ 1000000) (hby : bytes ≤ 1000) :
    ∃ v' w', (Builtin.append_ #[t, t] ty #[v, .slice (some ⟨w.heap.size, 0, none⟩) 1 1]).run Try.prog (w.alloc (.cells (C x).toArray e)) = .ok v' w' ∧ FB C c e base w' v' (xs ++ [x]) ∧ Only v.ownBlock.toList w w' ∧ (v'.ownBlock = v.ownBlock ∨ ∃ g, v'.ownBlock = some g ∧ w.heap.size ≤ g) := by
  obtain ⟨i0, hi, hz0, hz1, hz2⟩ := info_parts hinfo
  have hbl : (xs.length + 1) * bytes ≤ 1000001 * 1000 := Nat.mul_le_mul (by omega) hby
  obtain ⟨v', w', hr, ho, hg, _, hat⟩ := run_append_own_at (P := Try.prog) (w := w.alloc (.cells (C x).toArray e)) base t ty e i0 z c bytes ht hi hz0 hz1 hz2 hz hc v xs.length (flat C xs) (World.ownsRow.alloc h _) ⟨w.heap.size, 0, none⟩ 1 1 (C x) (by rw [hC]; omega) (news_cells _ _) (h1 x) (by unfold maxLen; omega) (by omega) (by rw [Deep.nblk_alloc]; omega)
  refine ⟨v', w', hr, ?_, ?_, ?_⟩
  · unfold FB
    rw [List.length_append, List.length_singleton, flat_snoc]
    exact ho
  · refine (Only.of_below ((Below.refl w.heap.size w).alloc (Nat.le_refl _) _)).trans ⟨hg.os, hg.tape, hg.output, hg.size, fun k hk hn => hg.block k hk fun e1 => hn ?_⟩
    rw [← e1]
    simp
  · rcases hat with hat | hat
    · exact .inl hat
    · exact .inr ⟨_, hat, by rw [Deep.nblk_alloc]; omega⟩
theorem wnC_one (x : Wn) : ∀ u ∈ wnC x, u.oneCell' = true := by
  intro u hu
  simp only [wnC, List.mem_cons, List.not_mem_nil, or_false] at hu
  rcases hu with rfl | rfl | rfl | rfl <;> rfl
theorem cnC_one (x : Cn) : ∀ u ∈ cnC x, u.oneCell' = true := by
  intro u hu
  simp only [cnC, List.mem_cons, List.not_mem_nil, or_false] at hu
  rcases hu with rfl | rfl | rfl | rfl | rfl | rfl | rfl <;> rfl
theorem stC_one (x : St) : ∀ u ∈ stC x, u.oneCell' = true := by
  intro u hu
  simp only [stC, List.mem_cons, List.not_mem_nil, or_false] at hu
  rcases hu with rfl | rfl | rfl | rfl | rfl | rfl <;> rfl
end Go.Proofs.Ytaalkjbkmkjkpaa.Msg
