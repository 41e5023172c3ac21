import Derived.Test.YtcphfhfockjljaaDoorMsgEncodewithMsgInjwithParseData
import Derived.Test.YtcphfhfockjljaaDoorMsgEqwithMsgEq2withMsgTo
import Derived.Test.YtcphfhfockjljaaDoorMsgDatawithMsgSzwithMsgSz2
import Derived.Laws.BytesArg
namespace Go.Proofs.YtcphfhfockjljaaDoor.Msg
open Go.ChangeShapes Go.WideShapes Go.ChangeAt Go.RowKit
set_option linter.unusedVariables false
set_option linter.unusedSimpArgs false

theorem cut_hit {c : UInt8} {l : List UInt8} {k fr : Nat} (hk : k < l.length) (hf : fr ≤ k) (h : l[k] = c) : cutGo c ((l.take k).drop fr) (l.drop k) = ((l.take k).drop fr) :: cutGo c ((l.take (k + 1)).drop (k + 1)) (l.drop (k + 1)) := by
  rw [List.drop_eq_getElem_cons hk]
  conv => lhs; unfold cutGo
  rw [if_pos h]
  congr 2
  rw [List.drop_eq_nil_of_le (by rw [List.length_take]; omega)]
theorem cut_miss {c : UInt8} {l : List UInt8} {k fr : Nat} (hk : k < l.length) (hf : fr ≤ k) (h : l[k] ≠ c) : cutGo c ((l.take k).drop fr) (l.drop k) = cutGo c ((l.take (k + 1)).drop fr) (l.drop (k + 1)) := by
  rw [List.drop_eq_getElem_cons hk]
  conv => lhs; unfold cutGo
  rw [if_neg h]
  congr 1
  rw [List.take_succ_eq_append_getElem hk, List.drop_append_of_le_length (by rw [List.length_take]; omega)]
theorem cut_end {c : UInt8} {l : List UInt8} {k fr : Nat} (hk : l.length ≤ k) : cutGo c ((l.take k).drop fr) (l.drop k) = [l.drop fr] := by
  rw [List.drop_eq_nil_of_le hk, List.take_of_length_le hk]
  rfl

end Go.Proofs.YtcphfhfockjljaaDoor.Msg

namespace Go.Proofs.YtcphfhfockjljaaDoor.Msg
open Go.ChangeShapes Go.WideShapes Go.ChangeAt Go.RowKit
set_option linter.unusedVariables false
set_option linter.unusedSimpArgs false

theorem bcells {W w1 : World} (hb : Below W.heap.size W w1) : (∀ b o, b < W.heap.size → w1.cell? ⟨b, o, none⟩ = W.cell? ⟨b, o, none⟩) ∧ (∀ b o, b < W.heap.size → w1.frozen? ⟨b, o, none⟩ = W.frozen? ⟨b, o, none⟩) :=
  ⟨fun b o h => hb.cell (p := ⟨b, o, none⟩) h, fun b o h => hb.frozen (p := ⟨b, o, none⟩) h⟩

theorem Same.setCell {lo : Nat} {w w' : World} (h : Same lo w w') {b o : Nat} (hb : b < lo) (v : Value) : Same lo w (w'.setCell ⟨b, o, none⟩ v) :=
  ⟨by rw [Deep.nblk_setCell]; exact h.1, fun k h1 h2 => by rw [Deep.blk_setCell_other _ _ _ _ (by simp; omega)]; exact h.2 k h1 h2⟩
theorem Same.drew {lo : Nat} {w w' : World} (h : Same lo w w') : Same lo w w'.drew := h

/-- the state of a loop that fills a row of new elements, one cell each -/
def Filling {α : Type} (A : Nat → World → Value → α → Prop) (w : World) (t : TypeId) (xs : List α) (k : Nat) (w1 : World) : Prop :=
  (∃ f, w1.rowIs w.heap.size t xs.length f ∧ ∀ j (h : j < xs.length), j < k → A (w.heap.size + 1) w1 (f j) xs[j]) ∧ Below w.heap.size w w1

theorem filling_step {α : Type} {A : Nat → World → Value → α → Prop} (hsame : ∀ lo w w' v x, A lo w v x → Same lo w w' → A lo w' v x) (hmono : ∀ lo lo' w v x, A lo w v x → lo' ≤ lo → A lo' w v x)
    {w wr w2 : World} {t : TypeId} {xs : List α} {k : Nat} (h : Filling A w t xs k wr) (hb2 : Below wr.heap.size wr w2) (hk : k < xs.length) {u : Value} (hu : A wr.heap.size w2 u xs[k]) :
    Filling A w t xs (k + 1) (w2.setCell ⟨w.heap.size, k, none⟩ u) := by
  obtain ⟨⟨f, hrow, hel⟩, hb⟩ := h
  have hlt := hrow.lt
  have hrow2 := hrow.of_block (hb2.block _ hlt)
  refine ⟨⟨_, hrow2.set k u, fun j hj hjk => ?_⟩, (hb.trans (hb2.mono hb.size)).setCell (by simp) _⟩
  by_cases e : j = k
  · subst e
    rw [if_pos rfl]
    exact hsame _ _ _ _ _ (hmono _ (w.heap.size + 1) _ _ _ hu (by omega)) ((Same.refl _ _).setCell (by omega) _)
  · rw [if_neg e]
    have h1 := hel j hj (by omega)
    exact hsame _ _ _ _ _ (hsame _ _ _ _ _ h1 (Same.of_below hb2)) ((Same.refl _ _).setCell (by omega) _)

theorem reps_of_filling {w w1 : World} {t : TypeId} {xs : List Rep} {cap : Nat} (hl : xs.length ≤ 9223372036854775807) (h : Filling StrsAt w t xs xs.length w1) :
    RepsAt w.heap.size w1 (.slice (some ⟨w.heap.size, 0, none⟩) xs.length cap) xs := by
  obtain ⟨⟨f, hrow, hel⟩, hb⟩ := h
  exact ⟨hl, .inr ⟨_, 0, cap, rfl, ⟨Nat.le_refl _, hrow.lt⟩, fun i hi => ⟨f i, by have := hrow.cell hi; simpa using this, At.mono mono_str (hel i hi hi) (by omega)⟩⟩⟩

theorem info_Rep : (Tryd.prog.info? 50).map (fun i => (i.zero, i.size, i.bytes)) = some (some (.agg #[.slice none 0 0]), 1, 24) := by kernel_rfl

end Go.Proofs.YtcphfhfockjljaaDoor.Msg

namespace Go.Proofs.YtcphfhfockjljaaDoor.Msg
open Go.ChangeShapes Go.WideShapes Go.ChangeAt Go.RowKit
set_option linter.unusedVariables false
set_option linter.unusedSimpArgs false

def digsF : Nat → Nat → List UInt8
  | 0, _ => []
  | f + 1, n => if n = 0 then [] else digsF f (n / 10) ++ [UInt8.ofNat (48 + n % 10)]
def digs (n : Nat) : List UInt8 := digsF n n
theorem digsF_fuel : ∀ (f g n : Nat), n ≤ f → n ≤ g → digsF f n = digsF g n
  | 0, g, n, h1, h2 => by
    obtain rfl : n = 0 := by omega
    cases g <;> simp [digsF]
  | f + 1, 0, n, h1, h2 => by
    obtain rfl : n = 0 := by omega
    simp [digsF]
  | f + 1, g + 1, n, h1, h2 => by
    unfold digsF
    by_cases h : n = 0
    · simp [h]
    · rw [if_neg h, if_neg h, digsF_fuel f g (n / 10) (by omega) (by omega)]
theorem digs_zero : digs 0 = [] := rfl
theorem digs_step (n : Nat) (h : n ≠ 0) : digs n = digs (n / 10) ++ [UInt8.ofNat (48 + n % 10)] := by
  unfold digs
  obtain ⟨m, rfl⟩ : ∃ m, n = m + 1 := ⟨n - 1, by omega⟩
  conv => lhs; unfold digsF
  rw [if_neg h, digsF_fuel m ((m + 1) / 10) ((m + 1) / 10) (by omega) (by omega)]
/-- the mark of number k (from 1) -/
def markT (k : Nat) : ByteArray := ⟨#[109]⟩ ++ ⟨(digs k).toArray⟩
theorem bytes_ext {a b : ByteArray} (h : a.data.toList = b.data.toList) : a = b := by
  cases a; cases b
  simp only [ByteArray.mk.injEq]
  exact Array.toList_inj.1 h
theorem digs_len : ∀ (f n : Nat), n ≤ f → n < 18446744073709551616 → (digs n).length ≤ 20 := by
  intro f n _ h
  have key : ∀ (j n : Nat), n < 10 ^ j → (digs n).length ≤ j := by
    intro j
    induction j with
    | zero => intro n hn; obtain rfl : n = 0 := by omega
              simp [digs_zero]
    | succ j ih =>
      intro n hn
      by_cases h0 : n = 0
      · subst h0; simp [digs_zero]
      · rw [digs_step n h0, List.length_append, List.length_singleton]
        have := ih (n / 10) (by rw [Nat.pow_succ] at hn; omega)
        omega
  exact key 20 n (by omega)

end Go.Proofs.YtcphfhfockjljaaDoor.Msg
