import Derived.Test.YtfdefjdogmhinaaDoorPlWwithPlSame
import Derived.Test.YtfdefjdogmhinaaDoorMarkDatawithFlatKit
import Derived.Deep.RegionHeld3
namespace Go.Proofs.YtfdefjdogmhinaaDoor.Msg
open Go.ChangeShapes Go.WideShapes Go.ChangeAt Go.RowKit
set_option linter.unusedVariables false
set_option linter.unusedSimpArgs false

/-! a row of texts that is being built, in a block that holds nothing but texts -/
def strC (s : ByteArray) : List Value := [.string s]
theorem strC_len (s : ByteArray) : (strC s).length = 1 := rfl
theorem strC_one (x : ByteArray) : ∀ u ∈ strC x, u.oneCell' = true := by
  intro u hu
  simp [strC] at hu
  subst hu
  rfl
def AllS (l : List Value) : Prop := ∀ u ∈ l, ∃ s, u = .string s
theorem AllS.app {a b : List Value} (h : AllS a) (k : AllS b) : AllS (a ++ b) := fun u hu => by
  rcases List.mem_append.1 hu with h1 | h1
  · exact h u h1
  · exact k u h1
theorem AllS.flat (xs : List ByteArray) : AllS (flat strC xs) := fun u hu => by
  simp only [Msg.flat, List.mem_flatten, List.mem_map] at hu
  obtain ⟨l, ⟨s, _, rfl⟩, h⟩ := hu
  simp [strC] at h
  exact ⟨s, h⟩
theorem AllS.zero (n : Nat) : AllS (Builtin.zeroCells (Value.string ⟨#[]⟩).cells n).toList := fun u hu => by
  unfold Builtin.zeroCells at hu
  simp only [Value.cells, Array.toList_map, List.mem_map] at hu
  obtain ⟨i, _, rfl⟩ := hu
  refine ⟨⟨#[]⟩, ?_⟩
  have : i % 1 = 0 := Nat.mod_one i
  simp [this]
/-- the texts that were built -/
def CB (base : Nat) (w : World) (v : Value) (cts : List ByteArray) : Prop := FB strC 1 9 base w v cts ∧ ∀ g ∈ v.ownBlock.toList, ∃ arr, Box w g 9 arr ∧ AllS arr.toList
theorem CB.lit (w : World) : CB w.heap.size (w.alloc (.cells #[] 9)) (.slice (some ⟨w.heap.size, 0, none⟩) 0 0) [] := by
  refine ⟨FB.lit strC 1 9 w, fun g hg => ?_⟩
  simp [Value.ownBlock] at hg
  subst hg
  exact ⟨#[], Box.new w 9 #[], fun u hu => by simp at hu⟩
theorem CB.keep {base : Nat} {w w' : World} {v : Value} {cts : List ByteArray} (h : CB base w v cts) (hb : ∀ g ∈ v.ownBlock.toList, w'.heap[g]? = w.heap[g]?) : CB base w' v cts := by
  refine ⟨?_, fun g hg => ?_⟩
  · obtain ⟨h1, h2⟩ := h.1
    refine ⟨h1, ?_⟩
    rcases h2 with h2 | ⟨g, cap, cur, rfl, h3, h4, h5⟩
    · exact .inl h2
    · exact .inr ⟨g, cap, cur, rfl, h3, by rw [hb g (by simp [Value.ownBlock])]; exact h4, h5⟩
  · obtain ⟨arr, hx, ha⟩ := h.2 g hg
    exact ⟨arr, hx.keep (hb g hg), ha⟩
theorem CB.below {base : Nat} {w w' : World} {v : Value} {cts : List ByteArray} (h : CB base w v cts) (hb : Below w.heap.size w w') : CB base w' v cts :=
  h.keep fun g hg => hb.block g (FB.own h.1 g hg).2
/-- an append of a text -/
theorem CB.app {base : Nat} {w : World} {v : Value} {cts : List ByteArray} (h : CB base w v cts) (ty : TypeId) (x : ByteArray) (hb : base ≤ w.heap.size) (hl : cts.length ≤ 1000) :
    ∃ v' w', (Builtin.append_ #[29, 29] ty #[v, .slice (some ⟨w.heap.size, 0, none⟩) 1 1]).run Tryd.prog (w.alloc (.cells #[.string x] 9)) = .ok v' w' ∧ CB base w' v' (cts ++ [x]) ∧ Only v.ownBlock.toList w w' := by
  have hinfo : (Tryd.prog.info? 9).map (fun i => (i.zero, i.size, i.bytes)) = some (some (.string ⟨#[]⟩), 1, 16) := by kernel_rfl
  obtain ⟨v', w', hr, hF, hO, _⟩ := app1 (t := 29) (z := .string ⟨#[]⟩) (bytes := 16) Tryd.underlying29 hinfo rfl (by omega) strC_len strC_one h.1 ty x hb (by omega) (by omega)
  have hall := h.2
  refine ⟨v', w', hr, ⟨hF, ?_⟩, hO⟩
  obtain ⟨i0, hi, hz0, hz1, hz2⟩ := info_parts hinfo
  obtain ⟨hlen, ⟨rfl, h0⟩ | ⟨g, cap, cur, rfl, hbg, hg, hnc, hcm, hcs, htake⟩⟩ := h.1
  · have hr2 := run_append_nil (P := Tryd.prog) (w.alloc (.cells #[.string x] 9)) 29 ty 9 i0 (.string ⟨#[]⟩) Tryd.underlying29 hi hz0 ⟨w.heap.size, 0, none⟩ 1 1 (strC x) (by rw [hz1]; rfl) (news_cells _ _) (by omega) (by omega) (by rw [hz2]; omega)
    have hrr := hr.symm.trans hr2
    injection hrr with e1 e2
    subst e1 e2
    intro g' hg'
    simp only [Value.ownBlock, Option.toList, List.mem_singleton] at hg'
    subst hg'
    refine ⟨_, heap_alloc_new (w.alloc (.cells #[.string x] 9)).drew _, ?_⟩
    rw [Array.toList_append]
    exact AllS.app (fun u hu => by simp [strC] at hu; exact ⟨x, hu⟩) (AllS.zero _)
  · have hgo : w.heap[g]? = (w.alloc (.cells #[.string x] 9)).heap[g]? := (heap_alloc_old w _ (by rw [Array.getElem?_eq_some_iff] at hg; exact hg.1)).symm
    obtain ⟨arr, hx, ha⟩ := hall g (by simp [Value.ownBlock])
    have hcur : arr = cur := by
      unfold Box at hx
      rw [hg] at hx
      simp only [Option.some.injEq, Obj.cells.injEq] at hx
      exact hx.1.symm
    subst hcur
    by_cases hroom : cts.length + 1 ≤ cap
    · have hr2 := run_append_room (P := Tryd.prog) (w.alloc (.cells #[.string x] 9)) 29 ty 9 i0 Tryd.underlying29 hi g cts.length cap arr (by rw [← hgo]; exact hg) ⟨w.heap.size, 0, none⟩ 1 1 (strC x) (by rw [hz1]; rfl) (news_cells _ _) (strC_one x) hroom (by rw [hz1, hcs, strC_len]; omega)
      have hrr := hr.symm.trans hr2
      injection hrr with e1 e2
      subst e1 e2
      intro g' hg'
      simp only [Value.ownBlock, Option.toList, List.mem_singleton] at hg'
      subst hg'
      refine ⟨_, setRow_heap (w.alloc (.cells #[.string x] 9)) g' arr _ 9 _ (by rw [← hgo]; exact hg), ?_⟩
      exact AllS.app (AllS.app (fun u hu => ha u (List.mem_of_mem_take hu)) (fun u hu => by simp [strC] at hu; exact ⟨x, hu⟩)) (fun u hu => ha u (List.mem_of_mem_drop hu))
    · have hown : (w.alloc (.cells #[.string x] 9)).ownsRow base 9 1 (.slice (some ⟨g, 0, none⟩) cts.length cap) cts.length (flat strC cts) := World.ownsRow.alloc h.1 _
      have hr2 := run_append_grow (P := Tryd.prog) (w.alloc (.cells #[.string x] 9)) 29 ty 9 i0 (.string ⟨#[]⟩) Tryd.underlying29 hi hz0 ⟨g, 0, none⟩ cts.length cap (flat strC cts) (by rw [hz1]; exact hlen) (hown.cells (g := g) rfl) ⟨w.heap.size, 0, none⟩ 1 1 (strC x) (by rw [hz1]; rfl) (news_cells _ _) (by omega) (by omega) (growslice_fits (by omega) (by rw [hz2]; omega))
      have hrr := hr.symm.trans hr2
      injection hrr with e1 e2
      subst e1 e2
      intro g' hg'
      simp only [Value.ownBlock, Option.toList, List.mem_singleton] at hg'
      subst hg'
      refine ⟨_, heap_alloc_new (w.alloc (.cells #[.string x] 9)).drew _, ?_⟩
      rw [Array.toList_append, Array.toList_append]
      exact AllS.app (AllS.app (AllS.flat cts) (fun u hu => by simp [strC] at hu; exact ⟨x, hu⟩)) (AllS.zero _)

/-! two pools in their boxes -/
def PQ (P Q : Nat) (x : Pl) (cv qv cv2 qv2 : Value) (X : World) : Prop :=
  Box X P 27 #[.int .i64 x.epoch, .int .i64 x.next, cv, qv] ∧ Box X Q 27 #[.int .i64 x.epoch, .int .i64 x.next, cv2, qv2] ∧ PlAt 0 X x cv qv ∧ PlAt 0 X x cv2 qv2
theorem PQ.below {P Q : Nat} {x : Pl} {cv qv cv2 qv2 : Value} {X Y : World} (h : PQ P Q x cv qv cv2 qv2 X) (hb : Below X.heap.size X Y) : PQ P Q x cv qv cv2 qv2 Y :=
  ⟨h.1.below hb, h.2.1.below hb, h.2.2.1.below hb, h.2.2.2.below hb⟩
theorem At.lo0 {α : Type} {C : α → List Value} {Z : α → Prop} {c lo : Nat} {w : World} {v : Value} {xs : List α} (h : At c (FR C Z) lo w v xs) : At c (FR C Z) 0 w v xs := At.mono mono_flat h (Nat.zero_le _)
/-- rows of elements that bear a text at their second place are in no box of a pool -/
theorem off_pool {α : Type} {C : α → List Value} (h1 : ∀ x, ∃ s, (C x)[1]? = some (.string s)) (e n : Int) (a1 a2 : Option Addr) (n1 n2 c1 c2 : Nat) : ∀ x : α, ∃ j, ∃ hj : j < (C x).length, ∀ k (hk : k < (#[Value.int .i64 e, .int .i64 n, .slice a1 n1 c1, .slice a2 n2 c2] : Array Value).size), (#[Value.int .i64 e, .int .i64 n, .slice a1 n1 c1, .slice a2 n2 c2] : Array Value)[k] ≠ (C x)[j] := fun x => by
  obtain ⟨s, hs⟩ := h1 x
  obtain ⟨hlt, he⟩ := List.getElem?_eq_some_iff.1 hs
  refine ⟨1, hlt, fun k hk => ?_⟩
  rw [he]
  match k, hk with
  | 0, _ => simp
  | 1, _ => simp
  | 2, _ => simp
  | 3, _ => simp
theorem str_cn (x : Cn) : ∃ s, (cnC x)[1]? = some (.string s) := ⟨_, rfl⟩
theorem str_wn (x : Wn) : ∃ s, (wnC x)[1]? = some (.string s) := ⟨_, rfl⟩
theorem str_st (x : St) : ∃ s, (stC x)[1]? = some (.string s) := ⟨_, rfl⟩
/-- rows of elements that begin with no text are in no row of texts -/
theorem off_strs {α : Type} {C : α → List Value} (h0 : ∀ x, ∃ u, (C x)[0]? = some u ∧ ∀ s, u ≠ .string s) {arr : Array Value} (ha : AllS arr.toList) : ∀ x : α, ∃ j, ∃ hj : j < (C x).length, ∀ k (hk : k < arr.size), arr[k] ≠ (C x)[j] := fun x => by
  obtain ⟨u, hu, hs⟩ := h0 x
  obtain ⟨hlt, he⟩ := List.getElem?_eq_some_iff.1 hu
  refine ⟨0, hlt, fun k hk e => ?_⟩
  obtain ⟨s, hs2⟩ := ha arr[k] (by simp)
  exact hs s (by rw [← hs2, e, he])
theorem no_cn (x : Cn) : ∃ u, (cnC x)[0]? = some u ∧ ∀ s, u ≠ .string s := ⟨_, rfl, fun s => by simp⟩
theorem no_wn (x : Wn) : ∃ u, (wnC x)[0]? = some u ∧ ∀ s, u ≠ .string s := ⟨_, rfl, fun s => by simp⟩
theorem no_st (x : St) : ∃ u, (stC x)[0]? = some u ∧ ∀ s, u ≠ .string s := ⟨_, rfl, fun s => by simp⟩
/-- a row that lies elsewhere, kept where texts were appended -/
theorem At.texts {α : Type} {C : α → List Value} {Z : α → Prop} {c base : Nat} {w w' : World} {v u : Value} {xs : List α} {cts : List ByteArray} (h : At c (FR C Z) 0 w v xs) (h0 : ∀ x, ∃ u, (C x)[0]? = some u ∧ ∀ s, u ≠ .string s) (hc : CB base w u cts) (ho : Only u.ownBlock.toList w w') : At c (FR C Z) 0 w' v xs := by
  cases hob : u.ownBlock with
  | none =>
    rw [hob] at ho
    refine At.kept kept_flat h ⟨ho.os, ho.tape, ho.output, ho.size, fun d hd => ho.block d hd (by simp)⟩
  | some g =>
    obtain ⟨arr, hx, ha⟩ := hc.2 g (by rw [hob]; simp)
    rw [hob] at ho
    exact at_off h hx (off_strs h0 ha) ho.size fun d hd hlt => ho.block d hlt (by simpa using hd)
end Go.Proofs.YtfdefjdogmhinaaDoor.Msg

namespace Go.Proofs.YtfdefjdogmhinaaDoor.Msg
open Go
set_option linter.unusedVariables false
set_option linter.unusedSimpArgs false
section
variable {P : Program} {ops : Array Oper} {Q : Exit → Act → World → Prop} {md : Region.Mode} {S : World → Prop} {n1 : Nat}
/-- in any order, and S is there behind each of the operations ahead of number n1 -/
def wpTwo (P : Program) (md : Region.Mode) (ops : Array Oper) (Q : Exit → Act → World → Prop) (S : World → Prop) (n1 : Nat) : Nat → Array Bool → Act → World → Prop
  | 0, done, a, w => Region.ready md ops done = [] ∧ Q .normal a w
  | f + 1, done, a, w => (Region.ready md ops done = [] → Q .normal a w) ∧ ∀ j ∈ Region.ready md ops done, wpOp P ops Q j (fun b v => (j < n1 → S v) ∧ wpTwo P md ops Q S n1 f (done.setIfInBounds j true) b v) a w
theorem wpTwo_any : ∀ (f : Nat) (done : Array Bool) (a : Act) (w : World), wpTwo P md ops Q S n1 f done a w → wpAny P md ops Q f done a w
  | 0, _, _, _, h => h
  | f + 1, done, a, w, h => ⟨h.1, fun j hj => wpOp_mono (fun b v hv => wpTwo_any f (done.setIfInBounds j true) b v hv.2) (h.2 j hj)⟩
/-- each of the later operations waits for number i -/
def lateWait (md : Region.Mode) (ops : Array Oper) (n1 i : Nat) : Bool := (ops.toList.drop n1).all fun o => o.after.any fun e => Region.binds md e && e.on == i
theorem lateWait_of {i j : Nat} {o : Oper} (h : lateWait md ops n1 i = true) (hj : ops[j]? = some o) (hn : ¬ ∃ e ∈ o.after, Region.binds md e = true ∧ e.on = i) : j < n1 := by
  refine Nat.lt_of_not_le fun hle => hn ?_
  have hm : o ∈ ops.toList.drop n1 := by
    rw [List.mem_iff_getElem?]
    exact ⟨j - n1, by rw [List.getElem?_drop, show n1 + (j - n1) = j by omega, Array.getElem?_toList]; exact hj⟩
  have h1 := List.all_eq_true.1 h o hm
  rw [Array.any_eq_true'] at h1
  obtain ⟨e, he, hb⟩ := h1
  simp only [Bool.and_eq_true, beq_iff_eq] at hb
  exact ⟨e, he, hb.1, hb.2⟩
theorem wpTwo_first {i : Nat} {oi : Oper} {v : Value} (hi : ops[i]? = some oi) (hlate : lateWait md ops n1 i = true) (hsel : ∀ (j : Nat) (o : Oper) cs b, ops[j]? = some o → o.op ≠ .select cs b) (hQ : ∀ c a w, Q (.panic c) (a.put oi.dst v) w → Q (.panic c) a w) :
    ∀ (f : Nat) (done : Array Bool) (a : Act) (w : World),
      (∀ j oj, ops[j]? = some oj → j ≠ i → done.getD j true = false → (∀ e ∈ oj.after, Region.binds md e = true → e.on ≠ i) → oi.apart ops oj = true) →
      i ∈ Region.ready md ops done → YieldsIf P ops S oi v a → S w →
      wpTwo P md ops Q S n1 f (done.setIfInBounds i true) (a.put oi.dst v) w → wpTwo P md ops Q S n1 (f + 1) done a w
  | 0, done, a, w, _, hr, hy, hS, H => by
    refine ⟨fun h => (by rw [h] at hr; cases hr), fun j hj => ?_⟩
    by_cases hji : j = i
    · subst hji
      exact hy.wpOp hi hS ⟨fun _ => hS, H⟩
    · have h1 := ready_mono hj hji
      rw [H.1] at h1
      cases h1
  | f + 1, done, a, w, hfree, hr, hy, hS, H => by
    refine ⟨fun h => (by rw [h] at hr; cases hr), fun j hj => ?_⟩
    by_cases hji : j = i
    · subst hji
      exact hy.wpOp hi hS ⟨fun _ => hS, H⟩
    · have h1 := H.2 j (ready_mono hj hji)
      obtain ⟨hun, oj, hoj, hall⟩ := mem_ready.1 hj
      have hnot : ∀ e ∈ oj.after, Region.binds md e = true → e.on ≠ i := fun e he hb heq => by
        have hd := hall e he hb
        have h0 := (mem_ready.1 hr).1
        rw [heq] at hd
        rcases Nat.lt_or_ge i done.size with h' | h'
        · simp [h'] at h0 hd; rw [h0] at hd; cases hd
        · simp [Array.getElem?_eq_none h'] at hd
      have hjn : j < n1 := lateWait_of hlate hoj fun ⟨e, he, hb, hei⟩ => hnot e he hb hei
      have h2 := wpOp_putIf hoj (hfree j oj hoj hji hun hnot) (fun cs b => hsel i oi cs b hi) (fun cs b => hsel j oj cs b hoj) hQ hy h1
      refine wpOp_mono (fun b u h3 => ?_) h2
      obtain ⟨hyb, hSu, hK⟩ := h3
      refine ⟨hSu, wpTwo_first hi hlate hsel hQ f (done.setIfInBounds j true) b u (fun k ok hk hki hku hno => hfree k ok hk hki ?_ hno) (ready_mono hr (Ne.symm hji)) hyb (hSu hjn) ?_⟩
      · by_cases hjk : j = k
        · subst hjk; exact hun
        · rw [getD_set_ne true hjk] at hku; exact hku
      · rw [Array.setIfInBounds_comm _ _ hji]
        exact hK
theorem wpTwo_take {i : Nat} (d : Option Tmp) {oi : Oper} {v : Value} {f : Nat} {done : Array Bool} {a : Act} {w : World} (hi : ops[i]? = some oi) (hd : oi.dst = d) (hl : lateWait md ops n1 i = true) (hs : Region.noSelect ops = true) (hf : Region.free md ops done i = true) (hr : (Region.ready md ops done).contains i = true)
    (hQ : ∀ c a w, Q (.panic c) (a.put d v) w → Q (.panic c) a w) (hS : S w) (hy : YieldsIf P ops S oi v a)
    (h : wpTwo P md ops Q S n1 f (done.setIfInBounds i true) (a.put d v) w) : wpTwo P md ops Q S n1 (f + 1) done a w := by
  subst hd
  exact wpTwo_first hi hl (Region.noSelect_spec hs) hQ f done a w (Region.free_spec hi hf) (by simpa using hr) hy hS h
theorem wpTwo_one {j : Nat} {o : Oper} {f : Nat} {done : Array Bool} {a : Act} {w : World} (hr : Region.ready md ops done = [j]) (ho : ops[j]? = some o)
    (h : ∀ K : Act → World → Prop, Shut (∀ b v, (j < n1 → S v) → wpTwo P md ops Q S n1 f (done.setIfInBounds j true) b v → K b v) → if Region.wanted o (yielded ops a.tmps) = true then Oper.wp P o a w K Q else K (a.put o.dst undef) w) :
    wpTwo P md ops Q S n1 (f + 1) done a w :=
  ⟨fun h0 => (by rw [hr] at h0; cases h0), fun k hk => by
    rw [hr] at hk
    simp at hk
    subst hk
    exact wpOp_step ho fun K hK => h K fun b v h1 h2 => hK b v ⟨h1, h2⟩⟩
theorem wpTwo_done {done : Array Bool} {a : Act} {w : World} (hr : Region.ready md ops done = []) (h : Q .normal a w) : ∀ f, wpTwo P md ops Q S n1 f done a w
  | 0 => ⟨hr, h⟩
  | _ + 1 => ⟨fun _ => h, by rw [hr]; simp⟩
theorem wp_region_two {id : Nat} {a : Act} {w : World} (S : World → Prop) (n1 : Nat) (hm : P.follows .mixedOrders = true) (h : wpTwo P .any ops Q S n1 ops.size (Array.replicate ops.size false) a w.drew) : (Code.region id ops true).wp P Q a w :=
  wp_region_any hm (wpTwo_any _ _ _ _ h)
end
end Go.Proofs.YtfdefjdogmhinaaDoor.Msg
