import Derived.Test.YtpdnocolmghnbaaDoorParseSpecwithImplWordwithImplHeadwithImplTextwithImplParse
import Derived.Test.YtpdnocolmghnbaaDoorMsgEq3withMarkSegwithHeldMsg
import Derived.Deep.RegionHeld3
import Derived.Test.YtpdnocolmghnbaaDoorTie
import Derived.Test.YtpdnocolmghnbaaDoorCards
import Derived.HandedShaped
import Derived.Shelf.Vars
import Derived.ShutString
import Derived.ProofKit
import Derived.OpenShut
import Derived.Lay
import Derived.MakeChecks
import Derived.SevenTiedAt
import Derived.Stop.Joined
namespace Go.Proofs.YtpdnocolmghnbaaDoor.Msg
open Go.ChangeShapes Go.WideShapes Go.ChangeAt Go.RowKit
set_option linter.unusedVariables false
set_option linter.unusedSimpArgs false

/-! how much a message that Parse gives can hold -/
theorem sumOf_le {α : Type} (f : α → Nat) (B : Nat) : ∀ xs : List α, (∀ x ∈ xs, f x ≤ B) → sumOf f xs ≤ xs.length * B
  | [], _ => by simp [sumOf]
  | x :: xs, h => by
    have h1 := h x (by simp)
    have h2 := sumOf_le f B xs (fun y hy => h y (by simp [hy]))
    unfold sumOf at h2 ⊢
    rw [List.map_cons, List.sum_cons, List.length_cons, Nat.add_mul]
    omega
theorem allO_mem {α β : Type} {f : α → Option β} : ∀ (xs : List α) (ys : List β), allO f xs = some ys → ys.length = xs.length ∧ ∀ y ∈ ys, ∃ x ∈ xs, f x = some y
  | [], ys, h => by simp [allO] at h; subst h; simp
  | x :: xs, ys, h => by
    unfold allO at h
    cases hx : f x with
    | none => rw [hx] at h; cases h
    | some y =>
      rw [hx] at h
      cases hr : allO f xs with
      | none => rw [hr] at h; cases h
      | some zs =>
        rw [hr] at h
        simp only [Option.map_some, Option.some.injEq] at h
        subst h
        obtain ⟨h1, h2⟩ := allO_mem xs zs hr
        refine ⟨by simp [h1], fun z hz => ?_⟩
        rw [List.mem_cons] at hz
        rcases hz with rfl | hz
        · exact ⟨x, by simp, hx⟩
        · obtain ⟨x', hx', e⟩ := h2 z hz
          exact ⟨x', by simp [hx'], e⟩
theorem segL_c {d : ByteArray} {hd : d.size = 5} {i : Nat} {p : List UInt8} {x : Seg} (h : segL d hd i p = .ok x) : cSeg x ≤ 18001 := by
  unfold segL at h
  split at h
  · cases h
  · split at h
    · cases h
    · split at h
      · cases h
      · rename_i hlong
        split at h
        · cases h
        · rename_i g hg
          injection h with h
          subst h
          have hl : longB (fieldsT d hd (restL i p)) = false := by
            cases hb : longB (fieldsT d hd (restL i p))
            · rfl
            · exact absurd (Or.inr hb) hlong
          obtain ⟨l1, l2⟩ := long_no hl
          obtain ⟨a1, a2⟩ := allO_mem _ _ hg
          have hf : ∀ f ∈ g, cField f ≤ 600 := fun f hf => by
            obtain ⟨f0, hf0, e0⟩ := a2 f hf
            obtain ⟨b1, b2⟩ := allO_mem _ _ e0
            obtain ⟨l3, l4⟩ := l2 f0 hf0
            have hr : ∀ r ∈ f, cRep r ≤ 20 := fun r hr => by
              obtain ⟨r0, hr0, e1⟩ := b2 r hr
              obtain ⟨c1, _⟩ := allO_mem _ _ e1
              rw [cRep_len, c1]
              exact l4 r0 hr0
            have := sumOf_le cRep 20 f hr
            unfold cField
            omega
          have := sumOf_le cField 600 g hf
          unfold cSeg cFields
          simp only
          omega
theorem segsGo_c {d : ByteArray} {hd : d.size = 5} : ∀ (ps : List (List UInt8)) (i : Nat) (xs : List Seg), segsGo d hd i ps = .ok xs → cMsg xs ≤ ps.length * 18001
  | [], i, xs, h => by
    unfold segsGo at h
    injection h with h
    subst h
    simp [cMsg, sumOf]
  | p :: ps, i, xs, h => by
    unfold segsGo at h
    cases hx : segL d hd i p with
    | error c => rw [hx] at h; cases h
    | ok x =>
      rw [hx] at h
      cases hr : segsGo d hd (i + 1) ps with
      | error c => rw [hr] at h; cases h
      | ok zs =>
        rw [hr] at h
        simp only [Except.map, Except.ok.injEq] at h
        subst h
        have h1 := segL_c hx
        have h2 := segsGo_c ps (i + 1) zs hr
        unfold cMsg sumOf at h2 ⊢
        rw [List.map_cons, List.sum_cons, List.length_cons, Nat.add_mul]
        omega
theorem parseL_c {s : ByteArray} {xs : List Seg} (hs : s.size ≤ 1048576) (h : parseL s = .ok xs) : cMsg xs ≤ 4611686018427387900 := by
  unfold parseL at h
  split at h
  · cases h
  · split at h
    · cases h
    · split at h
      · have h1 := segsGo_c _ _ _ h
        have h2 := piecesL_le s.data.toList
        have h3 := cutL_len 13 s.data.toList
        have h4 : s.data.toList.length = s.size := by simp
        have h5 : (piecesL s.data.toList).length ≤ 1048577 := by omega
        have h6 : (piecesL s.data.toList).length * 18001 ≤ 1048577 * 18001 := Nat.mul_le_mul_right _ h5
        omega
      · cases h

/-- what Parse gives, said in one way for both -/
def okL (X : Except Nat (List Seg)) : List Seg := match X with
  | .ok xs => xs
  | .error _ => []
def okC (X : Except Nat (List Seg)) : Int := match X with
  | .ok _ => 0
  | .error n => n
theorem parse_post {w w' : World} {X : Except Nat (List Seg)} {e : Ending} (h : ParsePost w X e w') : ∃ u bs, e = .returned (.tuple #[.agg #[u], .int .i64 (okC X)]) ∧ OSegs w' u (okL X) bs ∧ bs.Nodup ∧ (∀ b ∈ bs, w.heap.size ≤ b) ∧ Below w.heap.size w w' := by
  obtain ⟨u, c, rfl, h1, h2, h3⟩ := h
  cases X with
  | error n =>
    obtain ⟨rfl, rfl⟩ := h1 n rfl
    exact ⟨_, [], rfl, ⟨by simp [okL], .inl ⟨none, 0, rfl, rfl, rfl⟩⟩, by simp, by simp, h3⟩
  | ok xs =>
    obtain ⟨rfl, bs, a, b, c⟩ := h2 xs rfl
    exact ⟨u, bs, rfl, a, b, c, h3⟩
theorem okL_c {s : ByteArray} (hs : s.size ≤ 1048576) : 1 + cMsg (okL (parseL s)) ≤ 4611686018427387904 := by
  cases h : parseL s with
  | error n => simp [okL, cMsg, sumOf]
  | ok xs => have := parseL_c hs h; simp only [okL]; omega
theorem form_segs {w : World} {v : Value} {xs : List Seg} {bs : List Nat} (h : OSegs w v xs bs) : ∃ a c, v = .slice a xs.length c := by
  obtain ⟨a, c, e, _⟩ := (OAt.toAt toAt_seg h (lo := 0) (fun _ _ => Nat.zero_le _)).form
  exact ⟨a, c, e⟩

set_option maxRecDepth 100000 in
set_option maxHeartbeats 4000000 in
theorem lawParse (s : ByteArray) (w : World) (hs : s.size ≤ 9223372036854775807) (hm : Mx w) :
    Calls Tryd.prog 3 #[.string s] w fun e w' => e = .returned (.bool true) ∧ Below w.heap.size w w' := by
  have HB0 : Hid (Below w.heap.size w w) := Below.refl _ _
  by_cases hlong : (1048576 : Int) < (s.size : Int)
  · go_enter Tryd.func3, Tryd.ntmps3
    go_wp2_with fail
    go_ret
    exact ⟨rfl, HB0.out⟩
  have hsz : s.size ≤ 1048576 := by omega
  have HC := hide (okL_c hsz)
  have HM := hide hm
  clear hm
  go_enter Tryd.func3, Tryd.ntmps3
  go_wp2_with fail
  refine (parseSpec_any s _ hsz).mono ?_
  intro e W1 hp1
  obtain ⟨u1, bs1, rfl, hO1, hnd1, hfr1, hb1⟩ := parse_post hp1
  obtain ⟨a1, c1, rfl⟩ := form_segs hO1
  have hp := HM.out.pos
  have HO1 := hide hO1
  have HL1 := hide (OAt.lt ltO_seg hO1)
  have HF1 := hide hfr1
  have HB1 := hide hb1
  clear hp1 hO1 hnd1 hfr1 hb1
  have HBx : Hid (∀ o, Below w.heap.size w (W1.alloc o)) := fun o => HB1.out.alloc HB1.out.size o
  have HMx : Hid (∀ o, Mx (W1.alloc o)) := fun o => HM.out.kept (HBx.out o)
  go_wp2_with fail
  refine (parse_any s _ hsz (HMx.out _)).mono ?_
  intro e W2 hp2
  obtain ⟨u2, bs2, rfl, hO2, hnd2, hfr2, hb2⟩ := parse_post hp2
  obtain ⟨a2, c2, rfl⟩ := form_segs hO2
  have hs1 : (W1.alloc (Obj.cells #[.slice a1 (okL (parseL s)).length c1] 24)).heap.size = W1.heap.size + 1 := by simp
  rw [hs1] at hfr2
  have hb2' : Below (W1.heap.size + 1) (W1.alloc (Obj.cells #[.slice a1 (okL (parseL s)).length c1] 24)) W2 := by rw [← hs1]; exact hb2
  have hs12 : W1.heap.size < W2.heap.size := by have := hb2'.size; omega
  have hx2 : W2.cell? ⟨W1.heap.size, 0, none⟩ = some (.slice a1 (okL (parseL s)).length c1) := by rw [hb2'.cell (p := ⟨W1.heap.size, 0, none⟩) (by simp)]; simp
  have HW2 : Hid (Below w.heap.size w W2) := (HBx.out _).trans (hb2'.mono (by have := HB1.out.size; omega))
  -- the two boxes
  have hb3 : Below W2.heap.size W2 (W2.alloc (Obj.cells #[.slice a2 (okL (parseL s)).length c2] 24)) := (Below.refl _ _).alloc (Nat.le_refl _) _
  have hs3 : (W2.alloc (Obj.cells #[.slice a2 (okL (parseL s)).length c2] 24)).heap.size = W2.heap.size + 1 := by simp
  have HO13 : Hid (OSegs (W2.alloc (Obj.cells #[.slice a2 (okL (parseL s)).length c2] 24)) (.slice a1 (okL (parseL s)).length c1) (okL (parseL s)) bs1) :=
    OAt.kept keptO_seg HO1.out (by omega) (fun c hc => by
      have hl := HL1.out c hc
      rw [hb3.block c (by omega), hb2'.block c (by omega), Deep.blk_alloc_lt _ _ _ hl])
  have HO23 : Hid (OSegs (W2.alloc (Obj.cells #[.slice a2 (okL (parseL s)).length c2] 24)) (.slice a2 (okL (parseL s)).length c2) (okL (parseL s)) bs2) :=
    OAt.kept keptO_seg hO2 (by omega) (fun c hc => hb3.block c (OAt.lt ltO_seg hO2 c hc))
  have HL2 : Hid (∀ c ∈ bs2, W1.heap.size + 1 ≤ c ∧ c < W2.heap.size) := fun c hc => ⟨hfr2 c hc, OAt.lt ltO_seg hO2 c hc⟩
  have HW3 : Hid (Below w.heap.size w (W2.alloc (Obj.cells #[.slice a2 (okL (parseL s)).length c2] 24))) := bjoin hb3 HW2.out
  have hbox1 : (W2.alloc (Obj.cells #[.slice a2 (okL (parseL s)).length c2] 24)).cell? ⟨W1.heap.size, 0, none⟩ = some (.slice a1 (okL (parseL s)).length c1) := by rw [hb3.cell (p := ⟨W1.heap.size, 0, none⟩) hs12]; exact hx2
  have hbox2 : (W2.alloc (Obj.cells #[.slice a2 (okL (parseL s)).length c2] 24)).cell? ⟨W2.heap.size, 0, none⟩ = some (.slice a2 (okL (parseL s)).length c2) := by simp
  have hcc : (okC (parseL s) != okC (parseL s)) = false := by simp
  have HND2 := hide hnd2
  have HP3 : Hid (∀ W, Mx W → Calls Tryd.prog 5 #[.string s] W fun e W' => ∃ u bs, e = .returned (.tuple #[.agg #[u], .int .i64 (okC (parseL s))]) ∧ OSegs W' u (okL (parseL s)) bs ∧ Below W.heap.size W W') :=
    fun W hW => (parse_any s W hsz hW).mono fun e W' h => by
      obtain ⟨u, bs, h1, h2, _, _, h3⟩ := parse_post h
      exact ⟨u, bs, h1, h2, h3⟩
  clear hp2 hO2 hnd2 hfr2 hb2 hb2' hb3
  generalize okL (parseL s) = xs at *
  generalize okC (parseL s) = cc at *
  go_wp2_with fail
  refine (eqMsg_any xs _ _ _ (OAt.toAt toAt_seg HO23.out (lo := 0) (fun _ _ => Nat.zero_le _)) (OAt.toAt toAt_seg HO13.out (lo := 0) (fun _ _ => Nat.zero_le _))).mono ?_
  rintro e W4 ⟨rfl, hb4⟩
  rw [hs3] at hb4
  have hs4 : W2.heap.size < W4.heap.size := by have := hb4.size; omega
  have hc1 : W4.cell? ⟨W1.heap.size, 0, none⟩ = some (.slice a1 xs.length c1) := by rw [hb4.cell (p := ⟨W1.heap.size, 0, none⟩) (by simp; omega)]; exact hbox1
  have hc2 : W4.cell? ⟨W2.heap.size, 0, none⟩ = some (.slice a2 xs.length c2) := by rw [hb4.cell (p := ⟨W2.heap.size, 0, none⟩) (by simp)]; exact hbox2
  have hs14 : W1.heap.size < W4.heap.size := by omega
  have HO14 : Hid (OSegs W4 (.slice a1 xs.length c1) xs bs1) := OAt.kept keptO_seg HO13.out (by omega) (fun c hc => hb4.block c (by have := HL1.out c hc; omega))
  have HO24 : Hid (OSegs W4 (.slice a2 xs.length c2) xs bs2) := OAt.kept keptO_seg HO23.out (by omega) (fun c hc => hb4.block c (by have := HL2.out c hc; omega))
  have HW4 : Hid (Below w.heap.size w W4) := HW3.out.trans (hb4.mono (by have := HW2.out.size; omega))
  clear hb4 hbox1 hbox2 hx2 hs1 hs3
  go_wp2_with fail
  refine (markMsg_any xs _ bs2 1 _ (by omega) HC.out HND2.out HO24.out).mono ?_
  rintro e W5 ⟨rfl, hon, hO5⟩
  have hs5 := hon.size
  have hn2 : W2.heap.size ∉ bs2 := fun h => by have := HL2.out _ h; omega
  have hn1 : W1.heap.size ∉ bs2 := fun h => by have := HL2.out _ h; omega
  have hd1 : W5.cell? ⟨W1.heap.size, 0, none⟩ = some (.slice a1 xs.length c1) := by rw [only_cell hon hs14 hn1]; exact hc1
  have hd2 : W5.cell? ⟨W2.heap.size, 0, none⟩ = some (.slice a2 xs.length c2) := by rw [only_cell hon hs4 hn2]; exact hc2
  have hs25 : W2.heap.size < W5.heap.size := by omega
  have hs15 : W1.heap.size < W5.heap.size := by omega
  have HO15 : Hid (OSegs W5 (.slice a1 xs.length c1) xs bs1) := OAt.kept keptO_seg HO14.out hs5 (fun c hc => hon.block c (by have := HL1.out c hc; omega) (fun h => by have := HL1.out c hc; have := HL2.out c h; omega))
  have HA25 : Hid (SegsAt 0 W5 (.slice a2 xs.length c2) (mkMsg 1 xs)) := OAt.toAt toAt_seg hO5 (fun _ _ => Nat.zero_le _)
  have hs1w := HB1.out.size
  have HW5 : Hid (Below w.heap.size w W5) := HW4.out.trans (hon.below (by have := HW4.out.size; omega) (fun b hb => by have := HL2.out b hb; omega))
  clear hon hO5 hc1 hc2 hs5
  go_wp2_with fail
  refine (heldMsg_any xs _ 1 _ (by omega) HC.out HA25.out).mono ?_
  rintro e W6 ⟨rfl, hb6⟩
  have hs6 := hb6.size
  have hq0 : ¬ (((1 + cMsg xs : Nat) : Int)) < 0 := by omega
  have he1 : W6.cell? ⟨W1.heap.size, 0, none⟩ = some (.slice a1 xs.length c1) := by rw [hb6.cell (p := ⟨W1.heap.size, 0, none⟩) hs15]; exact hd1
  have hs16 : W1.heap.size < W6.heap.size := by omega
  have HO16 : Hid (OSegs W6 (.slice a1 xs.length c1) xs bs1) := OAt.kept keptO_seg HO15.out hs6 (fun c hc => hb6.block c (by have := HL1.out c hc; omega))
  have HW6 : Hid (Below w.heap.size w W6) := bjoin hb6 HW5.out
  have HM6 := hide (HM.out.kept HW6.out)
  clear hb6 hd1 hd2 hs6
  go_wp2_with fail
  refine (HP3.out _ HM6.out).mono ?_
  rintro e W7 ⟨u3, bs3, rfl, hO7, hb7⟩
  obtain ⟨a3, c3, rfl⟩ := form_segs hO7
  have hs7 := hb7.size
  have hf1 : W7.cell? ⟨W1.heap.size, 0, none⟩ = some (.slice a1 xs.length c1) := by rw [hb7.cell (p := ⟨W1.heap.size, 0, none⟩) hs16]; exact he1
  have hs17 : W1.heap.size < W7.heap.size := by omega
  have hb8 : Below W7.heap.size W7 (W7.alloc (Obj.cells #[.slice a3 xs.length c3] 24)) := (Below.refl _ _).alloc (Nat.le_refl _) _
  have HO18 : Hid (OSegs (W7.alloc (Obj.cells #[.slice a3 xs.length c3] 24)) (.slice a1 xs.length c1) xs bs1) := OAt.kept keptO_seg HO16.out (by simp; omega) (fun c hc => by
    have := HL1.out c hc
    rw [hb8.block c (by omega), hb7.block c (by omega)])
  have HO38 : Hid (OSegs (W7.alloc (Obj.cells #[.slice a3 xs.length c3] 24)) (.slice a3 xs.length c3) xs bs3) := OAt.kept keptO_seg hO7 (by simp) (fun c hc => hb8.block c (OAt.lt ltO_seg hO7 c hc))
  have HW8 : Hid (Below w.heap.size w (W7.alloc (Obj.cells #[.slice a3 xs.length c3] 24))) := bjoin hb8 (bjoin hb7 HW6.out)
  clear hb7 hb8 hO7 he1
  go_wp2_with fail
  refine (eqMsg_any xs _ _ _ (OAt.toAt toAt_seg HO38.out (lo := 0) (fun _ _ => Nat.zero_le _)) (OAt.toAt toAt_seg HO18.out (lo := 0) (fun _ _ => Nat.zero_le _))).mono ?_
  rintro e W9 ⟨rfl, hb9⟩
  have HW9 := hide (bjoin hb9 HW8.out)
  clear hb9
  go_wp2_with fail
  go_ret
  exact ⟨rfl, HW9.out⟩
end Go.Proofs.YtpdnocolmghnbaaDoor.Msg

namespace Go.Proofs.YtpdnocolmghnbaaDoor.rowParse
open Go.Proofs.YtpdnocolmghnbaaDoor.Msg
open Go.ChangeShapes Go.WideShapes Go.ChangeAt Go.RowKit
open Go.ChangeMaps (open_string shut_string)
set_option linter.unusedVariables false

theorem own : ownKnob Tryd.prog.godebug = none := by kernel_rfl

/-- the wrap that keeps both: what the row lists, and the world's shape -/
theorem wrap {H : Type} {enc : TypeId × Value → H} {a : Assume} {C : Checked} {os : Os} {f : FuncId} {fn : Func} {s : ChangeSpec} {conds : List PathCond} {apart fresh handsOn again : Bool} {X : World → Array Value → Prop}
    (own : ownKnob C.prog.godebug = none) (started : os.Started) (noInit : C.prog.inits.idxOf? f = none) (hfn : C.prog.funcs[f]? = some fn)
    (witness : ∃ (w : World) (tape : Tape) (i : Input), w.os = os ∧ (w.forCall tape i).Shaped C.prog ∧ i.vars = [] ∧ Input.okWide C.prog (w.forCall tape i) .any w.heap.size f i ∧
      ((s.pre enc C.prog fn conds apart (w.forCall tape i).memory i.args ∧ X (w.forCall tape i).memory i.args) ∧ sizedMet enc C.prog fn (OpenSpec.ofChange s) apart (w.forCall tape i).memory i.args) ∧ a.holds C.prog (lone (Frame.enter C.prog f i.args .normal) [] (w.forCall tape i)))
    (contract : ∀ (W : World) (base : Nat) (args : Array Value) (ds gs : List (DataW H)) (before : List MemPlace),
      (∀ (j : Nat) t v, fn.params[j]? = some t → args[j]? = some v → Value.okWide C.prog W .any base t v) →
      DataW.Whole enc C.prog fn.params.toList s.vars apart W args.toList ds gs before →
      W.ShapedOpen C.prog →
      Calls C.prog f args W fun e W' => ∃ v, e = .returned v ∧ s.post enc C.prog fn apart fresh handsOn again W args v W') :
    ReturnsInHanded a C os f .any (fun w args => (s.pre enc C.prog fn conds apart w args ∧ X w args) ∧ sizedMet enc C.prog fn (OpenSpec.ofChange s) apart w args) (s.post enc C.prog fn apart fresh handsOn again) := by
  refine returnsInHanded_of_calls own started noInit witness ?_
  intro w tape i _ hsh _ hok hpre hholds
  obtain ⟨_, _, _, fn', hfn', _, _, _, _, hval⟩ := hok
  have e : fn' = fn := Option.some.inj (hfn'.symm.trans hfn)
  subst e
  obtain ⟨⟨⟨ds, gs, before, hw, hc⟩, hx⟩, hz⟩ := hpre
  have hw' := DataW.Whole.of_heap (w' := w.forCall tape i) (by rfl) hw
  refine (contract (w.forCall tape i) w.heap.size i.args ds gs before hval hw' hsh).mono fun e W' ⟨v, he, hp⟩ => ?_
  subst he
  exact ChangeSpec.post_blind hp

theorem max_cell {W : World} (h : W.ShapedOpen Tryd.prog) : Mx W :=
  cell_of_shapedOpen_int (t := 3) (zero := #[.int .i64 0]) h (by decide +kernel) (by kernel_rfl) rfl (by kernel_rfl) (by kernel_rfl) Tryd.underlying3

set_option maxRecDepth 100000 in
theorem lifted (os : Os) (started : os.Started) (H : Type) (enc : TypeId × Value → H) :
    ReturnsInHanded {} Tryd.checked os 3 .any (fun w args => (Rows.fnExactParseSpec.pre enc Tryd.prog Tryd.f3 Rows.fnExactParseRow.domain false w args ∧ laidMetH Tryd.prog Rows.fnExactParseRow.laid w) ∧ sizedMet enc Tryd.prog Tryd.f3 (OpenSpec.ofChange Rows.fnExactParseSpec) false w args)
      (Rows.fnExactParseSpec.post enc Tryd.prog Tryd.f3 false true false false) := by
  refine wrap (C := Tryd.checked) (X := fun w _ => laidMetH Tryd.prog Rows.fnExactParseRow.laid w) own started (by kernel_rfl) Tryd.func3
    (ChangeSpec.witness_shaped (enc := enc) (C := Tryd.checked) (os := os) (X := fun w _ => laidMetH Tryd.prog Rows.fnExactParseRow.laid w) false (World.laidAll Tryd.prog os Rows.fnExactParseRow.laid) #[.string ByteArray.empty] 8 (World.laidAll_os _ _ _)
      (World.shaped_of_ZipB (by kernel_rfl) (by kernel_rfl)) (by kernel_rfl) (by kernel_rfl) (by kernel_rfl)
      (by rw [MakeChecks.laidMetH_plain _ _ _ (by kernel_rfl)]; exact laidMet_laidAll _ (by kernel_rfl) (by kernel_rfl))) ?_
  intro W base args ds gs before hval0 hW hsh
  have hval : ∀ (j : Nat) t v, Tryd.f3.params[j]? = some t → args[j]? = some v → Value.okWide Tryd.prog W .any base t v := hval0
  have hW' := hW
  obtain ⟨p, q, hA0, hV, rfl, hfz, hnd⟩ := hW
  have hA : DataW.TrodAll enc Tryd.prog W 0 (fun _ => true) true Tryd.f3.params.toList args.toList ds p := hA0
  rw [Tryd.params3] at hA hval
  obtain ⟨v0, d0, rfl, rfl, h0⟩ := trodAll_one hA
  obtain ⟨rfl, rfl⟩ := trodVars_none hV
  obtain ⟨s, rfl, rfl, rfl, w0⟩ := open_string Tryd.underlying9 (hval 0 9 v0 rfl rfl) h0
  clear hA0 hval0
  refine (lawParse s W (by unfold maxLen at w0; omega) (max_cell hsh)).mono fun e W' ⟨he, bel⟩ => ?_
  subst he
  exact ⟨_, rfl, _, _, _, [], _, [], hW', trodAll_mk1 (shut_bool Tryd.underlying4 _), trodAll_mk1 (shut_string Tryd.underlying9 w0), rfl, bel.frame _, fun h => by cases h⟩

theorem over : Rows.FnExactParseSaid :=
  OpenClaim.holds_of_wide 3 Tryd.f3 rfl rfl rfl rfl rfl rfl rfl ⟨rfl, rfl, rfl, rfl, rfl⟩ rfl rfl rfl rfl rfl (by kernel_rfl) Tryd.func3 (by kernel_rfl)
    (of_decide_eq_true (by kernel_rfl)) (by unfold Func.isWrapper; first | (rw [if_pos (by decide +kernel)]; kernel_rfl) | (rw [if_neg (by decide +kernel)]; exact ⟨rfl, rfl⟩))
    (fun os started H enc _ => lifted os started H enc)
end Go.Proofs.YtpdnocolmghnbaaDoor.rowParse
namespace Go.Proofs.YtpdnocolmghnbaaDoor
theorem fnExactParse_holds : Rows.FnExactParseCardSaid :=
  Claim7.holds_tied_plain_at .later [] [.data, .pinned] true (true, "183ec0a3ce1122178925e28d3f24a1b91145e9c191370f414851b1711b95c141") false rowParse.over (fun _ h => by cases h) (by kernel_rfl) (fun _ h => by cases h) fnExactParse_row_tie rfl ⟨rfl, rfl⟩ (by kernel_rfl) rfl
    (fun f fn hf hfn => by
      obtain rfl : f = 3 := Option.some.inj ((show Tryd.prog.funcNamed "loop.example/s01639/laws.FnExactParse" = some 3 by kernel_rfl).symm.trans hf) |>.symm
      obtain rfl : fn = Tryd.f3 := (Option.some.inj (Tryd.func3.symm.trans hfn)).symm
      exact ⟨by kernel_rfl, fun j t ht => by
        rw [Tryd.params3] at ht
        have hm : t ∈ [9] := by simpa using Array.mem_of_getElem? ht
        have hall : ([9].all fun u => !Tryd.prog.wantsStandIn u) = true := by kernel_rfl
        exact (show Tryd.prog.wantsStandIn t = false by simpa using List.all_eq_true.1 hall t hm)⟩)
    (by kernel_rfl)
#print axioms fnExactParse_holds
end Go.Proofs.YtpdnocolmghnbaaDoor
