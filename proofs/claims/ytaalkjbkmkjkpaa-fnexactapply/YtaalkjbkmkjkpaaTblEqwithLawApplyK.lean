import Derived.Test.YtaalkjbkmkjkpaaTblTo2withTblToO
import Derived.Test.YtaalkjbkmkjkpaaTblChgwithTblWo
import Derived.Test.YtaalkjbkmkjkpaaBkApply2withBkApply3
import Derived.Test.YtaalkjbkmkjkpaaTblApplyS
import Derived.Deep.DeepCutAuto
namespace Go.Proofs.Ytaalkjbkmkjkpaa.Msg
open Go.ChangeShapes Go.WideShapes Go.ChangeAt Go.RowKit
set_option linter.unusedVariables false
set_option linter.unusedSimpArgs false

set_option maxHeartbeats 2000000 in
theorem eqSesss_any (xs : List Sess) (v u : Value) (w : World) {lo lo2 : Nat} (hv : SesssAt lo w v xs) (hu : SesssAt lo2 w u xs) :
    Calls Try.prog 29 #[v, u] w fun e w' => e = .returned (.bool true) ∧ Below w.heap.size w w' := by
  obtain ⟨hl, hv⟩ := hv
  obtain ⟨_, hu⟩ := hu
  by_cases hx : xs = []
  · subst hx
    obtain ⟨a0, c0, rfl⟩ : ∃ a c, v = .slice a 0 c := by
      rcases hv with ⟨_, _, rfl, _⟩ | ⟨b, off, cap, rfl, _⟩
      · exact ⟨_, _, rfl⟩
      · exact ⟨_, _, rfl⟩
    obtain ⟨a1, c1, rfl⟩ : ∃ a c, u = .slice a 0 c := by
      rcases hu with ⟨_, _, rfl, _⟩ | ⟨b, off, cap, rfl, _⟩
      · exact ⟨_, _, rfl⟩
      · exact ⟨_, _, rfl⟩
    clear hv hu
    go_enter Try.func29, Try.ntmps29
    go_wp2
    go_loop [5] (fun i => i = .int .i64 0) (fun _ => 0)
    case atStart => rfl
    case round =>
      subst hrel
      go_wp2
      go_ret
      exact ⟨rfl, Below.refl _ _⟩
  · rcases hv with ⟨_, _, _, e⟩ | ⟨b, off, cap, rfl, ⟨_, hlt⟩, hc⟩
    · exact absurd e hx
    rcases hu with ⟨_, _, _, e⟩ | ⟨b2, off2, cap2, rfl, ⟨_, hlt2⟩, hc2⟩
    · exact absurd e hx
    clear hx
    go_enter Try.func29, Try.ntmps29
    go_wp2
    go_loopw [5] (fun i w1 => ∃ k : Nat, k ≤ xs.length ∧ i = .int .i64 k ∧ Below w.heap.size w w1) (fun i _ => xs.length - (intOf i).toNat)
    case atStart => exact ⟨0, Nat.zero_le _, rfl, Below.refl _ _⟩
    case round =>
      obtain ⟨k, hk, rfl, hb⟩ := hrel
      by_cases hk2 : k < xs.length
      · obtain ⟨x, hxk⟩ : ∃ x, xs[k] = x := ⟨_, rfl⟩
        obtain ⟨p, hp⟩ : ∃ p, off + k * 7 = p := ⟨_, rfl⟩
        obtain ⟨p2, hp2⟩ : ∃ p2, off2 + k * 7 = p2 := ⟨_, rfl⟩
        have g := hc k hk2
        have g2 := hc2 k hk2
        rw [hxk, hp] at g
        rw [hxk, hp2] at g2
        obtain ⟨c0, c1, c2, c3, c4, c6, _, _, ve, c5, hel⟩ := g
        obtain ⟨d0, d1, d2, d3, d4, d6, _, _, ue, d5, hel2⟩ := g2
        have KS : Hid (∀ X, Below w.heap.size w X → (X.cell? ⟨b, p, none⟩ = some (.int .i64 x.client) ∧ X.cell? ⟨b, p + 1, none⟩ = some (.string x.tag) ∧ X.cell? ⟨b, p + 2, none⟩ = some (.string x.query) ∧ X.cell? ⟨b, p + 3, none⟩ = some (.int .i64 x.page) ∧ X.cell? ⟨b, p + 4, none⟩ = some (.int .i64 x.state) ∧ X.cell? ⟨b, p + 5, none⟩ = some (ve) ∧ X.cell? ⟨b, p + 6, none⟩ = some (.int .i64 x.cursor)) ∧ (X.cell? ⟨b2, p2, none⟩ = some (.int .i64 x.client) ∧ X.cell? ⟨b2, p2 + 1, none⟩ = some (.string x.tag) ∧ X.cell? ⟨b2, p2 + 2, none⟩ = some (.string x.query) ∧ X.cell? ⟨b2, p2 + 3, none⟩ = some (.int .i64 x.page) ∧ X.cell? ⟨b2, p2 + 4, none⟩ = some (.int .i64 x.state) ∧ X.cell? ⟨b2, p2 + 5, none⟩ = some (ue) ∧ X.cell? ⟨b2, p2 + 6, none⟩ = some (.int .i64 x.cursor)) ∧ Below w.heap.size w X) := fun X h =>
          ⟨⟨(h.cell (by exact hlt)).trans c0, (h.cell (by exact hlt)).trans c1, (h.cell (by exact hlt)).trans c2, (h.cell (by exact hlt)).trans c3, (h.cell (by exact hlt)).trans c4, (h.cell (by exact hlt)).trans c5, (h.cell (by exact hlt)).trans c6⟩, ⟨(h.cell (by exact hlt2)).trans d0, (h.cell (by exact hlt2)).trans d1, (h.cell (by exact hlt2)).trans d2, (h.cell (by exact hlt2)).trans d3, (h.cell (by exact hlt2)).trans d4, (h.cell (by exact hlt2)).trans d5, (h.cell (by exact hlt2)).trans d6⟩, h⟩
        have HEL := hide hel
        have HEL2 := hide hel2
        obtain ⟨ae, ce, hfe⟩ : ∃ a c, ve = .slice a x.rows.length c := by obtain ⟨a, c, e, _⟩ := hel.form; exact ⟨a, c, e⟩
        obtain ⟨au, cu, hfu⟩ : ∃ a c, ue = .slice a x.rows.length c := by obtain ⟨a, c, e, _⟩ := hel2.form; exact ⟨a, c, e⟩
        subst hfe hfu
        have hi : (k : Int) < (xs.length : Int) := by omega
        have hi0 : (0 : Int) ≤ (k : Int) := by omega
        have HB := hide hb
        clear hc hc2 c0 c1 c2 c3 c4 c5 c6 d0 d1 d2 d3 d4 d5 d6 hel hel2 hxk hb
        go_wp2_with fail
        obtain ⟨D, hwd⟩ : ∃ D, wr.drew = D := ⟨_, rfl⟩
        have hbd0 : Below w.heap.size w wr.drew := bjoin (Below.refl _ _).drew HB.out
        have hD : Below w.heap.size w D := by rw [← hwd]; exact hbd0
        go_region_held3 (fun X => (X.cell? ⟨b, p, none⟩ = some (.int .i64 x.client) ∧ X.cell? ⟨b, p + 1, none⟩ = some (.string x.tag) ∧ X.cell? ⟨b, p + 2, none⟩ = some (.string x.query) ∧ X.cell? ⟨b, p + 3, none⟩ = some (.int .i64 x.page) ∧ X.cell? ⟨b, p + 4, none⟩ = some (.int .i64 x.state) ∧ X.cell? ⟨b, p + 5, none⟩ = some (.slice ae x.rows.length ce) ∧ X.cell? ⟨b, p + 6, none⟩ = some (.int .i64 x.cursor)) ∧ (X.cell? ⟨b2, p2, none⟩ = some (.int .i64 x.client) ∧ X.cell? ⟨b2, p2 + 1, none⟩ = some (.string x.tag) ∧ X.cell? ⟨b2, p2 + 2, none⟩ = some (.string x.query) ∧ X.cell? ⟨b2, p2 + 3, none⟩ = some (.int .i64 x.page) ∧ X.cell? ⟨b2, p2 + 4, none⟩ = some (.int .i64 x.state) ∧ X.cell? ⟨b2, p2 + 5, none⟩ = some (.slice au x.rows.length cu) ∧ X.cell? ⟨b2, p2 + 6, none⟩ = some (.int .i64 x.cursor)) ∧ Below w.heap.size w X)
          (first | with_reducible exact KS.out _ hbd0 | with_reducible exact KS.out _ hD | with_reducible exact KS.out _ hb9)
          (first | (go_at_call 58; refine (eqSess_any x (.slice ae x.rows.length ce) (.slice au x.rows.length cu) _ (At.kept kept_str HEL.out hD) (At.kept kept_str HEL2.out hD)).mono ?_; rintro e w2 ⟨rfl, hb2⟩; have hb9 : Below w.heap.size w w2 := bjoin hb2 hD))
        go_wp2_with fail
        go_roundw
        case rel => exact ⟨k + 1, by omega, by go_num, hb9⟩
        case measure => simp [intOf]; omega
      · go_wp2
        go_ret
        exact ⟨rfl, hb⟩
set_option maxHeartbeats 400000 in
theorem eqTbl_any (x : List Sess) (v u : Value) (w : World) {lo lo2 : Nat} (hv : SesssAt lo w v x) (hu : SesssAt lo2 w u x) :
    Calls Try.prog 10 #[.agg #[v], .agg #[u]] w fun e w' => e = .returned (.bool true) ∧ Below w.heap.size w w' := by
  have hb := ((Below.refl w.heap.size w).alloc (Nat.le_refl _) (Obj.cells #[v] 32)).alloc (by simp) (Obj.cells #[u] 32)
  have hv' := At.kept kept_sess hv hb
  have hu' := At.kept kept_sess hu hb
  go_enter Try.func10, Try.ntmps10
  go_wp2_with fail
  refine (eqSesss_any x v u _ hv' hu').mono ?_
  rintro e w' ⟨rfl, hb'⟩
  go_wp2_with fail
  go_ret
  exact ⟨rfl, hb.trans (hb'.mono (by simp; omega))⟩
end Go.Proofs.Ytaalkjbkmkjkpaa.Msg

namespace Go.Proofs.Ytaalkjbkmkjkpaa.Msg
open Go.ChangeShapes Go.WideShapes Go.ChangeAt Go.RowKit
set_option linter.unusedVariables false
set_option linter.unusedSimpArgs false

/-! the law of Apply -/
/-- an answer that the law holds: its box, and the table in memory of its own -/
def AHeld (B0 : Nat) (R : List Sess) (W0 : World) (B : Nat) (tv : Value) (X : World) : Prop :=
  Box X B 32 #[tv] ∧ (∃ ps, TE B0 X tv ps ∧ ps.map Prod.fst = R) ∧ Below B0 W0 X ∧ B0 ≤ B
theorem AHeld.late {B0 : Nat} {R : List Sess} {W0 W5 : World} {tv : Value} (ht : ∃ ps, TE B0 W5 tv ps ∧ ps.map Prod.fst = R) (hb : Below B0 W0 W5) (h0 : B0 ≤ W0.heap.size) :
    AHeld B0 R W0 W5.heap.size tv (W5.alloc (.cells #[tv] 32)) := by
  obtain ⟨ps, ht, he⟩ := ht
  have hb5 : Below W5.heap.size W5 (W5.alloc (.cells #[tv] 32)) := (Below.refl _ _).alloc (Nat.le_refl _) _
  have := hb.size
  exact ⟨Box.new _ _ _, ⟨ps, ht.below hb5, he⟩, hb.trans (hb5.mono (by omega)), by omega⟩
theorem AHeld.early {B0 : Nat} {R : List Sess} {W0 W5 : World} {B : Nat} {tv : Value} (hz : Box W5 B 32 #[.slice none 0 0]) (ht : ∃ ps, TE B0 W5 tv ps ∧ ps.map Prod.fst = R) (hb : Below B0 W0 W5) (hB : B0 ≤ B) :
    AHeld B0 R W0 B tv (W5.setCell ⟨B, 0, none⟩ tv) := by
  obtain ⟨ps, ht, he⟩ := ht
  exact ⟨by have := hz.set 0 tv; simpa using this, ⟨ps, ht.setBox hz tv, he⟩, hb.setCell (p := ⟨B, 0, none⟩) hB _, hB⟩
theorem AHeld.form {B0 : Nat} {R : List Sess} {W0 : World} {B : Nat} {tv : Value} {X : World} (h : AHeld B0 R W0 B tv X) : ∃ a c, tv = .slice a R.length c := by
  obtain ⟨_, ⟨ps, ht, he⟩, _⟩ := h
  obtain ⟨a, c, e, _⟩ := ht.form
  exact ⟨a, c, by rw [e, ← he, List.length_map]⟩
/-- an answer that is held stays so where its blocks are as they were -/
theorem AHeld.keep {B0 : Nat} {R : List Sess} {W0 : World} {B : Nat} {tv : Value} {X Y : World} (h : AHeld B0 R W0 B tv X) (hb : ∀ d, B0 ≤ d → d < X.heap.size → Y.heap[d]? = X.heap[d]?) (hB : Below B0 W0 Y) : AHeld B0 R W0 B tv Y := by
  obtain ⟨h1, ⟨ps, ht, he⟩, h3, h4⟩ := h
  exact ⟨h1.keep (hb B h4 h1.lt), ⟨ps, ht.keep fun d hd => hb d (ht.own hd).1 (ht.own hd).2, he⟩, hB, h4⟩
theorem AHeld.below {B0 : Nat} {R : List Sess} {W0 : World} {B : Nat} {tv : Value} {X Y : World} (h : AHeld B0 R W0 B tv X) (hb : Below X.heap.size X Y) : AHeld B0 R W0 B tv Y :=
  h.keep (fun d _ hd => hb.block d hd) (h.2.2.1.trans (hb.mono (Nat.le_trans h.2.2.2 (Nat.le_of_lt h.1.lt))))
theorem AHeld.sesss {B0 : Nat} {R : List Sess} {W0 : World} {B : Nat} {tv : Value} {X : World} (h : AHeld B0 R W0 B tv X) (hR : R.length ≤ 17) : SesssAt 0 X tv R := by
  obtain ⟨_, ⟨ps, ht, he⟩, _⟩ := h
  have hl : ps.length = R.length := by rw [← he, List.length_map]
  have := ht.sesss (by omega)
  rw [he] at this
  exact At.mono mono_sess this (Nat.zero_le _)
theorem AHeld.cell {B0 : Nat} {R : List Sess} {W0 : World} {B : Nat} {tv : Value} {X : World} (h : AHeld B0 R W0 B tv X) : X.cell? ⟨B, 0, none⟩ = some tv := h.1.cell 0 (by simp)
/-- it may be written -/
theorem AHeld.owned {B0 : Nat} {R : List Sess} {W0 : World} {B : Nat} {tv : Value} {X : World} (h : AHeld B0 R W0 B tv X) (hR : R.length ≤ 17) : ∃ bs, OSesss X tv R bs ∧ bs.Nodup ∧ (∀ b ∈ bs, B0 ≤ b ∧ b ≠ B) ∧ cTbl R ≤ 1700102 := by
  obtain ⟨hx, ⟨ps, ht, he⟩, _⟩ := h
  have hl : ps.length = R.length := by rw [← he, List.length_map]
  obtain ⟨bs, h1, h2, h3⟩ := ht.osesss (by omega)
  have h4 := cTbl_small ps fun p hp => (ht.els p hp).1
  rw [he] at h1 h4
  exact ⟨bs, h1, h2, fun b hb => ⟨(ht.own (h3 b hb)).1, fun e => by have h5 := h3 b hb; rw [e] at h5; exact ht.apart hx (by decide) (by decide) h5⟩, Nat.le_trans h4 (by omega)⟩
theorem box1 {W : World} {b : Nat} {t : TypeId} {x : Value} (h : Box W b t #[x]) {G : Prop} (k : Box W b t #[x] → W.cell? ⟨b, 0, none⟩ = some x ∧ W.frozen? ⟨b, 0, none⟩ = false → G) : G := k h ⟨h.cell 0 (by simp), h.frozen 0⟩
theorem box7 {W : World} {b : Nat} {t : TypeId} {y0 y1 y2 y3 y4 y5 y6 : Value} (h : Box W b t #[y0, y1, y2, y3, y4, y5, y6]) : W.cell? ⟨b, 0, none⟩ = some y0 ∧ W.cell? ⟨b, 1, none⟩ = some y1 ∧ W.cell? ⟨b, 2, none⟩ = some y2 ∧ W.cell? ⟨b, 3, none⟩ = some y3 ∧ W.cell? ⟨b, 4, none⟩ = some y4 ∧ W.cell? ⟨b, 5, none⟩ = some y5 ∧ W.cell? ⟨b, 6, none⟩ = some y6 :=
  ⟨h.cell 0 (by simp), h.cell 1 (by simp), h.cell 2 (by simp), h.cell 3 (by simp), h.cell 4 (by simp), h.cell 5 (by simp), h.cell 6 (by simp)⟩
theorem ssB {lo : Nat} {w w' : World} {v : Value} {xs : List Sess} (h : SesssAt lo w v xs) (hb : Below w.heap.size w w') : SesssAt lo w' v xs := At.kept kept_sess h hb
theorem stB {lo : Nat} {w w' : World} {v : Value} {xs : List ByteArray} (h : StrsAt lo w v xs) (hb : Below w.heap.size w w') : StrsAt lo w' v xs := At.kept kept_str h hb
theorem bjn {n : Nat} {w W c : World} (h2 : Below W.heap.size W c) (h1 : Below n w W) (hn : n ≤ w.heap.size) : Below n w c := h1.trans (h2.mono (Nat.le_trans hn h1.size))
end Go.Proofs.Ytaalkjbkmkjkpaa.Msg
