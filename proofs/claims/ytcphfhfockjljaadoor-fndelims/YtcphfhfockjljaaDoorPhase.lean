import Derived.Test.YtcphfhfockjljaaDoorFlatKitwithFlatAppwithBufKit
import Derived.Deep.RegionHeld3
namespace Go.Proofs.YtcphfhfockjljaaDoor.Msg
open Go
set_option linter.unusedVariables false
set_option linter.unusedSimpArgs false
section
variable {P : Program} {ops : Array Oper} {Q : Exit → Act → World → Prop} {md : Region.Mode} {S : World → Prop} {n1 : Nat}
/-- in any order, and S is there behind each of the operations ahead of number n1 -/
def wpTwo (P : Program) (md : Region.Mode) (ops : Array Oper) (Q : Exit → Act → World → Prop) (S : World → Prop) (n1 : Nat) : Nat → Array Bool → Act → World → Prop
  | 0, done, a, w => Region.ready md ops done = [] ∧ Q .normal a w
  | f + 1, done, a, w => (Region.ready md ops done = [] → Q .normal a w) ∧ ∀ j ∈ Region.ready md ops done, wpOp P ops Q j (fun b v => (j < n1 → S v) ∧ wpTwo P md ops Q S n1 f (done.setIfInBounds j true) b v) a w
theorem wpTwo_any : ∀ (f : Nat) (done : Array Bool) (a : Act) (w : World), wpTwo P md ops Q S n1 f done a w → wpAny P md ops Q f done a w
  | 0, _, _, _, h => h
  | f + 1, done, a, w, h => ⟨h.1, fun j hj => wpOp_mono (fun b v hv => wpTwo_any f (done.setIfInBounds j true) b v hv.2) (h.2 j hj)⟩
/-- each of the later operations waits for number i -/
def lateWait (md : Region.Mode) (ops : Array Oper) (n1 i : Nat) : Bool := (ops.toList.drop n1).all fun o => o.after.any fun e => Region.binds md e && e.on == i
theorem lateWait_of {i j : Nat} {o : Oper} (h : lateWait md ops n1 i = true) (hj : ops[j]? = some o) (hn : ¬ ∃ e ∈ o.after, Region.binds md e = true ∧ e.on = i) : j < n1 := by
  refine Nat.lt_of_not_le fun hle => hn ?_
  have hm : o ∈ ops.toList.drop n1 := by
    rw [List.mem_iff_getElem?]
    exact ⟨j - n1, by rw [List.getElem?_drop, show n1 + (j - n1) = j by omega, Array.getElem?_toList]; exact hj⟩
  have h1 := List.all_eq_true.1 h o hm
  rw [Array.any_eq_true'] at h1
  obtain ⟨e, he, hb⟩ := h1
  simp only [Bool.and_eq_true, beq_iff_eq] at hb
  exact ⟨e, he, hb.1, hb.2⟩
theorem wpTwo_first {i : Nat} {oi : Oper} {v : Value} (hi : ops[i]? = some oi) (hlate : lateWait md ops n1 i = true) (hsel : ∀ (j : Nat) (o : Oper) cs b, ops[j]? = some o → o.op ≠ .select cs b) (hQ : ∀ c a w, Q (.panic c) (a.put oi.dst v) w → Q (.panic c) a w) :
    ∀ (f : Nat) (done : Array Bool) (a : Act) (w : World),
      (∀ j oj, ops[j]? = some oj → j ≠ i → done.getD j true = false → (∀ e ∈ oj.after, Region.binds md e = true → e.on ≠ i) → oi.apart ops oj = true) →
      i ∈ Region.ready md ops done → YieldsIf P ops S oi v a → S w →
      wpTwo P md ops Q S n1 f (done.setIfInBounds i true) (a.put oi.dst v) w → wpTwo P md ops Q S n1 (f + 1) done a w
  | 0, done, a, w, _, hr, hy, hS, H => by
    refine ⟨fun h => (by rw [h] at hr; cases hr), fun j hj => ?_⟩
    by_cases hji : j = i
    · subst hji
      exact hy.wpOp hi hS ⟨fun _ => hS, H⟩
    · have h1 := ready_mono hj hji
      rw [H.1] at h1
      cases h1
  | f + 1, done, a, w, hfree, hr, hy, hS, H => by
    refine ⟨fun h => (by rw [h] at hr; cases hr), fun j hj => ?_⟩
    by_cases hji : j = i
    · subst hji
      exact hy.wpOp hi hS ⟨fun _ => hS, H⟩
    · have h1 := H.2 j (ready_mono hj hji)
      obtain ⟨hun, oj, hoj, hall⟩ := mem_ready.1 hj
      have hnot : ∀ e ∈ oj.after, Region.binds md e = true → e.on ≠ i := fun e he hb heq => by
        have hd := hall e he hb
        have h0 := (mem_ready.1 hr).1
        rw [heq] at hd
        rcases Nat.lt_or_ge i done.size with h' | h'
        · simp [h'] at h0 hd; rw [h0] at hd; cases hd
        · simp [Array.getElem?_eq_none h'] at hd
      have hjn : j < n1 := lateWait_of hlate hoj fun ⟨e, he, hb, hei⟩ => hnot e he hb hei
      have h2 := wpOp_putIf hoj (hfree j oj hoj hji hun hnot) (fun cs b => hsel i oi cs b hi) (fun cs b => hsel j oj cs b hoj) hQ hy h1
      refine wpOp_mono (fun b u h3 => ?_) h2
      obtain ⟨hyb, hSu, hK⟩ := h3
      refine ⟨hSu, wpTwo_first hi hlate hsel hQ f (done.setIfInBounds j true) b u (fun k ok hk hki hku hno => hfree k ok hk hki ?_ hno) (ready_mono hr (Ne.symm hji)) hyb (hSu hjn) ?_⟩
      · by_cases hjk : j = k
        · subst hjk; exact hun
        · rw [getD_set_ne true hjk] at hku; exact hku
      · rw [Array.setIfInBounds_comm _ _ hji]
        exact hK
theorem wpTwo_take {i : Nat} (d : Option Tmp) {oi : Oper} {v : Value} {f : Nat} {done : Array Bool} {a : Act} {w : World} (hi : ops[i]? = some oi) (hd : oi.dst = d) (hl : lateWait md ops n1 i = true) (hs : Region.noSelect ops = true) (hf : Region.free md ops done i = true) (hr : (Region.ready md ops done).contains i = true)
    (hQ : ∀ c a w, Q (.panic c) (a.put d v) w → Q (.panic c) a w) (hS : S w) (hy : YieldsIf P ops S oi v a)
    (h : wpTwo P md ops Q S n1 f (done.setIfInBounds i true) (a.put d v) w) : wpTwo P md ops Q S n1 (f + 1) done a w := by
  subst hd
  exact wpTwo_first hi hl (Region.noSelect_spec hs) hQ f done a w (Region.free_spec hi hf) (by simpa using hr) hy hS h
theorem wpTwo_one {j : Nat} {o : Oper} {f : Nat} {done : Array Bool} {a : Act} {w : World} (hr : Region.ready md ops done = [j]) (ho : ops[j]? = some o)
    (h : ∀ K : Act → World → Prop, Shut (∀ b v, (j < n1 → S v) → wpTwo P md ops Q S n1 f (done.setIfInBounds j true) b v → K b v) → if Region.wanted o (yielded ops a.tmps) = true then Oper.wp P o a w K Q else K (a.put o.dst undef) w) :
    wpTwo P md ops Q S n1 (f + 1) done a w :=
  ⟨fun h0 => (by rw [hr] at h0; cases h0), fun k hk => by
    rw [hr] at hk
    simp at hk
    subst hk
    exact wpOp_step ho fun K hK => h K fun b v h1 h2 => hK b v ⟨h1, h2⟩⟩
theorem wpTwo_done {done : Array Bool} {a : Act} {w : World} (hr : Region.ready md ops done = []) (h : Q .normal a w) : ∀ f, wpTwo P md ops Q S n1 f done a w
  | 0 => ⟨hr, h⟩
  | _ + 1 => ⟨fun _ => h, by rw [hr]; simp⟩
theorem wp_region_two {id : Nat} {a : Act} {w : World} (S : World → Prop) (n1 : Nat) (hm : P.follows .mixedOrders = true) (h : wpTwo P .any ops Q S n1 ops.size (Array.replicate ops.size false) a w.drew) : (Code.region id ops true).wp P Q a w :=
  wp_region_any hm (wpTwo_any _ _ _ _ h)
end
end Go.Proofs.YtcphfhfockjljaaDoor.Msg
