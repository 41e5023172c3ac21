import Derived.Test.YtpmnepalchgcbaaDoorTblTowithTblTo2withMarkStr
import Derived.Test.YtpmnepalchgcbaaDoorFlatKitwithPhasewithTblOk2
import Derived.Deep.RegionHeld3
import Derived.Test.YtpmnepalchgcbaaDoorMsgSz3withMsgEqwithMsgEq2
import Derived.Test.YtpmnepalchgcbaaDoorMsgTowithMsgTo2withTblSz
namespace Go.Proofs.YtpmnepalchgcbaaDoor.Msg
open Go.ChangeShapes Go.WideShapes Go.ChangeAt Go.RowKit
set_option linter.unusedVariables false
set_option linter.unusedSimpArgs false

theorem disj_of {bss : List (List Nat)} (h : bss.flatten.Nodup) {i j : Nat} (hi : i < bss.length) (hj : j < bss.length) (hij : i ≠ j) {c : Nat} (hc : c ∈ bss[i]) : c ∉ bss[j] := by
  intro hd
  rw [List.Nodup, List.pairwise_flatten] at h
  have hp := List.pairwise_iff_getElem.1 h.2
  rcases Nat.lt_or_gt_of_ne hij with hlt | hlt
  · exact hp i j hi hj hlt c hc c hd rfl
  · exact hp j i hj hi hlt c hd c hc rfl

/-- the first j elements of a row of lists are marked -/
def Mix {α : Type} (O : World → Value → α → List Nat → Prop) (mk : Nat → α → α) (c : α → Nat) (k : Nat) (w : World) (b off : Nat) (xs : List α) (bss : List (List Nat)) (j : Nat) : Prop :=
  ∀ i (h : i < xs.length) (h2 : i < bss.length), ∃ v, w.cell? ⟨b, off + i, none⟩ = some v ∧ O w v (if i < j then mk (k + sumOf c (xs.take i)) xs[i] else xs[i]) bss[i]

theorem Mix.step {α : Type} {O : World → Value → α → List Nat → Prop} {mk : Nat → α → α} {c : α → Nat} {k : Nat} {w w2 : World} {b off : Nat} {xs : List α} {bss : List (List Nat)} {j : Nat}
    (hkeep : ∀ w w' v x bs, O w v x bs → w.heap.size ≤ w'.heap.size → (∀ d ∈ bs, w'.heap[d]? = w.heap[d]?) → O w' v x bs) (hlt : ∀ w v x bs, O w v x bs → ∀ d ∈ bs, d < w.heap.size)
    (h : Mix O mk c k w b off xs bss j) (hb : b < w.heap.size) (hn : (b :: bss.flatten).Nodup) (hj : j < xs.length) (hj2 : j < bss.length) {v : Value} (hv : w.cell? ⟨b, off + j, none⟩ = some v)
    (ho : Only bss[j] w w2) (hO : O w2 v (mk (k + sumOf c (xs.take j)) xs[j]) bss[j]) : Mix O mk c k w2 b off xs bss (j + 1) := by
  rw [List.nodup_cons] at hn
  have hbj : b ∉ bss[j] := fun hm => hn.1 (by rw [List.mem_flatten]; exact ⟨_, List.getElem_mem hj2, hm⟩)
  have hrow := ho.block b hb hbj
  intro i hi h2
  by_cases e : i = j
  · subst e
    exact ⟨v, by rw [cellSame hrow]; exact hv, by rw [if_pos (by omega)]; exact hO⟩
  · obtain ⟨vi, g1, g2⟩ := h i hi h2
    refine ⟨vi, by rw [cellSame hrow]; exact g1, ?_⟩
    have g3 := hkeep _ w2 _ _ _ g2 ho.size fun d hd => ho.block d (hlt _ _ _ _ g2 d hd) (disj_of hn.2 h2 hj2 e hd)
    by_cases e2 : i < j
    · rw [if_pos e2] at g3; rw [if_pos (by omega)]; exact g3
    · rw [if_neg e2] at g3; rw [if_neg (by omega)]; exact g3

theorem sub_flat {bss : List (List Nat)} {j : Nat} (hj : j < bss.length) (b : Nat) : ∀ c ∈ bss[j], c ∈ b :: bss.flatten := fun c hc => by
  simp only [List.mem_cons, List.mem_flatten]
  exact .inr ⟨bss[j], List.getElem_mem hj, hc⟩

theorem nodup_at {bss : List (List Nat)} {b j : Nat} (h : (b :: bss.flatten).Nodup) (hj : j < bss.length) : bss[j].Nodup := by
  rw [List.nodup_cons, List.Nodup, List.pairwise_flatten] at h
  exact h.2.1 _ (List.getElem_mem hj)

end Go.Proofs.YtpmnepalchgcbaaDoor.Msg

namespace Go.Proofs.YtpmnepalchgcbaaDoor.Msg
open Go.ChangeShapes Go.WideShapes Go.ChangeAt Go.RowKit
set_option linter.unusedVariables false
set_option linter.unusedSimpArgs false

/-- a run of cells that may be written -/
def Cells (w : World) (b off m : Nat) (g : Nat → Value) : Prop := ∀ i, i < m → w.cell? ⟨b, off + i, none⟩ = some (g i) ∧ w.frozen? ⟨b, off + i, none⟩ = false
theorem Cells.get {w : World} {b off m : Nat} {g : Nat → Value} (h : Cells w b off m g) (p q : Nat) (hi : p + q < m) : w.cell? ⟨b, off + p + q, none⟩ = some (g (p + q)) ∧ w.frozen? ⟨b, off + p + q, none⟩ = false := by
  rw [Nat.add_assoc]
  exact h _ hi
theorem Cells.set {w : World} {b off m : Nat} {g : Nat → Value} (h : Cells w b off m g) {p q : Nat} (hi : p + q < m) (v : Value) : Cells (w.setCell ⟨b, off + p + q, none⟩ v) b off m (fun x => if x = p + q then v else g x) := by
  intro i him
  obtain ⟨h1, h2⟩ := h i him
  refine ⟨?_, by rw [World.frozen?_setCell]; exact h2⟩
  by_cases e : i = p + q
  · subst e
    simp only [if_true]
    rw [← Nat.add_assoc] at h1 ⊢
    rw [World.cell?_setCell_same _ _ _ h1]
  · simp only [if_neg e]
    rw [World.cell?_setCell_other _ _ _ _ (by intro h; injection h with _ h2 _; omega), h1]
theorem Cells.set0 {w : World} {b off m : Nat} {g : Nat → Value} (h : Cells w b off m g) {p : Nat} (hi : p < m) (v : Value) : Cells (w.setCell ⟨b, off + p, none⟩ v) b off m (fun x => if x = p then v else g x) :=
  h.set (p := p) (q := 0) hi v
theorem Cells.below {w w' : World} {b off m : Nat} {g : Nat → Value} (h : Cells w b off m g) (hb : Below w.heap.size w w') (hlt : b < w.heap.size) : Cells w' b off m g := fun i hi =>
  ⟨by rw [hb.cell (p := ⟨b, off + i, none⟩) hlt]; exact (h i hi).1, by rw [hb.frozen (p := ⟨b, off + i, none⟩) hlt]; exact (h i hi).2⟩
theorem Cells.congr {w : World} {b off m : Nat} {g f : Nat → Value} (h : Cells w b off m g) (hg : ∀ i, i < m → g i = f i) : Cells w b off m f := fun i hi => ⟨by rw [← hg i hi]; exact (h i hi).1, (h i hi).2⟩
theorem bool_same {a b : Bool} (h : a = b) : Value.bool a = .bool b := by rw [h]
theorem int_same {a b : Int} (h : a = b) : Value.int .i64 a = .int .i64 b := by rw [h]

def mvWant (k i : Nat) : Value :=
  if i % 4 = 0 then .int .i64 ((k + i : Nat) : Int) else if i % 4 = 1 then .string (markT (k + i)) else if i % 4 = 2 then .string (markT (k + i)) else .string (markT (k + i))
theorem mvWant_0 (k j : Nat) : mvWant k (j * 4 + 0) = .int .i64 ((k + (j * 4 + 0) : Nat) : Int) := by
  unfold mvWant
  rw [if_pos (by omega)]
theorem mvWant_1 (k j : Nat) : mvWant k (j * 4 + 1) = .string (markT (k + (j * 4 + 1))) := by
  unfold mvWant
  rw [if_neg (by omega), if_pos (by omega)]
theorem mvWant_2 (k j : Nat) : mvWant k (j * 4 + 2) = .string (markT (k + (j * 4 + 2))) := by
  unfold mvWant
  rw [if_neg (by omega), if_neg (by omega), if_pos (by omega)]
theorem mvWant_3 (k j : Nat) : mvWant k (j * 4 + 3) = .string (markT (k + (j * 4 + 3))) := by
  unfold mvWant
  rw [if_neg (by omega), if_neg (by omega), if_neg (by omega)]
end Go.Proofs.YtpmnepalchgcbaaDoor.Msg

namespace Go.Proofs.YtpmnepalchgcbaaDoor.Msg
open Go.ChangeShapes Go.WideShapes Go.ChangeAt Go.RowKit
set_option linter.unusedVariables false
set_option linter.unusedSimpArgs false

/-! sessions that may be written: seven cells each, the rows of each in a block of its own -/
def sC (x : Sess) (v : Value) : Nat → Value
  | 0 => .int .i64 x.client
  | 1 => .string x.tag
  | 2 => .string x.query
  | 3 => .int .i64 x.page
  | 4 => .int .i64 x.state
  | 5 => v
  | _ => .int .i64 x.cursor
def SessO (w : World) (b off : Nat) (x : Sess) (bs : List Nat) : Prop :=
  ∃ v, Cells w b off 7 (sC x v) ∧ x.tag.size ≤ 9223372036854775807 ∧ x.query.size ≤ 9223372036854775807 ∧ OStrs w v x.rows bs
def OSesss : World → Value → List Sess → List Nat → Prop := OAt 7 SessO
theorem Cells.same {w w' : World} {b off m : Nat} {g : Nat → Value} (h : Cells w b off m g) (hb : w'.heap[b]? = w.heap[b]?) : Cells w' b off m g := fun i hi =>
  ⟨by rw [cellSame hb]; exact (h i hi).1, by rw [frozenSame hb]; exact (h i hi).2⟩
theorem Cells.put {w : World} {b off m : Nat} {g : Nat → Value} (h : Cells w b off m g) {q : Nat} (hq : q < m) (v : Value) : Cells (w.setCell ⟨b, off + q, none⟩ v) b off m (fun x => if x = q then v else g x) := by
  intro i him
  obtain ⟨h1, h2⟩ := h i him
  refine ⟨?_, by rw [World.frozen?_setCell]; exact h2⟩
  by_cases e : i = q
  · subst e
    simp only [if_true]
    rw [World.cell?_setCell_same _ _ _ h1]
  · simp only [if_neg e]
    rw [World.cell?_setCell_other _ _ _ _ (by intro h; injection h with _ h2 _; omega), h1]
theorem keptO_sess : KeptO SessO := fun w w' b off x bs h hb hs hc => let ⟨v, h1, z1, z2, h2⟩ := h; ⟨v, h1.same hb, z1, z2, OAt.kept keptO_str h2 hs hc⟩
theorem ltO_sess : LtO SessO := fun w b off x bs h => let ⟨v, h1, z1, z2, h2⟩ := h; OAt.lt ltO_str h2
theorem toAt_sess : ToAt SessO SessR := fun lo w b off x bs h hlo => by
  obtain ⟨v, h1, z1, z2, h2⟩ := h
  exact ⟨(h1 0 (by omega)).1, (h1 1 (by omega)).1, (h1 2 (by omega)).1, (h1 3 (by omega)).1, (h1 4 (by omega)).1, (h1 6 (by omega)).1, z1, z2, v, (h1 5 (by omega)).1, OAt.toAt toAt_str h2 hlo⟩

def mkSess (k : Nat) (s : Sess) : Sess := ⟨(k : Int), markT (k + 1), markT (k + 2), ((k + 3 : Nat) : Int), ((k + 4 : Nat) : Int), mkRep (k + 5) s.rows, ((k + 5 + cRep s.rows : Nat) : Int)⟩
def cSess (s : Sess) : Nat := 6 + cRep s.rows
def mkTbl : Nat → List Sess → List Sess := mkL mkSess cSess ⟨0, ⟨#[]⟩, ⟨#[]⟩, 0, 0, [], 0⟩
def cTbl (xs : List Sess) : Nat := sumOf cSess xs
def MixT (k : Nat) (w : World) (b off : Nat) (xs : List Sess) (bss : List (List Nat)) (j : Nat) : Prop :=
  ∀ i (h : i < xs.length) (h2 : i < bss.length), SessO w b (off + i * 7) (if i < j then mkSess (k + sumOf cSess (xs.take i)) xs[i] else xs[i]) bss[i]
/-- one session of the row was written, and its rows -/
structure Upd (bs : List Nat) (b p : Nat) (w w' : World) : Prop where
  only : Only (b :: bs) w w'
  oth : ∀ o, (o < p ∨ p + 7 ≤ o) → w'.cell? ⟨b, o, none⟩ = w.cell? ⟨b, o, none⟩
  fz : ∀ o, w'.frozen? ⟨b, o, none⟩ = w.frozen? ⟨b, o, none⟩
theorem Upd.refl (bs : List Nat) (b p : Nat) (w : World) : Upd bs b p w w := ⟨Only.refl _ _, fun _ _ => rfl, fun _ => rfl⟩
theorem Upd.set {bs : List Nat} {b p : Nat} {w w' : World} (h : Upd bs b p w w') {q : Nat} (hq : q < 7) (v : Value) : Upd bs b p w (w'.setCell ⟨b, p + q, none⟩ v) :=
  ⟨h.only.setCell (by simp) _, fun o ho => by rw [World.cell?_setCell_other _ _ _ _ (by intro h; injection h with _ h2 _; omega)]; exact h.oth o ho, fun o => by rw [World.frozen?_setCell]; exact h.fz o⟩
theorem Upd.below {bs : List Nat} {b p : Nat} {w w' w2 : World} (h : Upd bs b p w w') (hb : Below w'.heap.size w' w2) (hlt : b < w'.heap.size) : Upd bs b p w w2 :=
  ⟨h.only.trans (Only.of_below hb), fun o ho => by rw [hb.cell (p := ⟨b, o, none⟩) hlt]; exact h.oth o ho, fun o => by rw [hb.frozen (p := ⟨b, o, none⟩) hlt]; exact h.fz o⟩
theorem Upd.on {bs : List Nat} {b p : Nat} {w w' w2 : World} (h : Upd bs b p w w') (ho : Only bs w' w2) (hlt : b < w'.heap.size) (hn : b ∉ bs) : Upd bs b p w w2 := by
  have hb := ho.block b hlt hn
  exact ⟨h.only.trans (ho.mono fun c hc => List.mem_cons_of_mem _ hc), fun o hx => by rw [cellSame hb]; exact h.oth o hx, fun o => by rw [frozenSame hb]; exact h.fz o⟩
theorem Upd.wide {b p : Nat} {w w' : World} (h : Upd [] b p w w') (bs : List Nat) : Upd bs b p w w' := ⟨h.only.mono fun c hc => by rw [List.mem_singleton.1 hc]; simp, h.oth, h.fz⟩
theorem Upd.rows {bs : List Nat} {b p : Nat} {w w' : World} (h : Upd bs b p w w') {v : Value} {xs : List ByteArray} {cs : List Nat} (hO : OStrs w v xs cs) (hn : ∀ c ∈ cs, c ∉ b :: bs) : OStrs w' v xs cs :=
  OAt.kept keptO_str hO h.only.size fun d hd => h.only.block d (OAt.lt ltO_str hO d hd) (hn d hd)
theorem MixT.step {k : Nat} {w w9 : World} {b off : Nat} {xs : List Sess} {bss : List (List Nat)} {j : Nat}
    (h : MixT k w b off xs bss j) (hn : (b :: bss.flatten).Nodup) (hj : j < xs.length) (hj2 : j < bss.length) (hU : Upd bss[j] b (off + j * 7) w w9)
    (hS : SessO w9 b (off + j * 7) (mkSess (k + sumOf cSess (xs.take j)) xs[j]) bss[j]) : MixT k w9 b off xs bss (j + 1) := by
  rw [List.nodup_cons] at hn
  have hnb : ∀ i (h2 : i < bss.length), b ∉ bss[i] := fun i h2 hm => hn.1 (by rw [List.mem_flatten]; exact ⟨_, List.getElem_mem h2, hm⟩)
  intro i hi h2
  by_cases e : i = j
  · subst e
    rw [if_pos (by omega)]
    exact hS
  · obtain ⟨v, hC, z1, z2, hO⟩ := h i hi h2
    have g : SessO w9 b (off + i * 7) (if i < j then mkSess (k + sumOf cSess (xs.take i)) xs[i] else xs[i]) bss[i] :=
      ⟨v, fun q hq => ⟨by rw [hU.oth _ (by omega)]; exact (hC q hq).1, by rw [hU.fz]; exact (hC q hq).2⟩, z1, z2, hU.rows hO fun c hc hm => by
        rcases List.mem_cons.1 hm with rfl | hm
        · exact hnb i h2 hc
        · exact disj_of hn.2 h2 hj2 e hc hm⟩
    by_cases e2 : i < j
    · rw [if_pos e2] at g; rw [if_pos (by omega)]; exact g
    · rw [if_neg e2] at g; rw [if_neg (by omega)]; exact g
end Go.Proofs.YtpmnepalchgcbaaDoor.Msg
