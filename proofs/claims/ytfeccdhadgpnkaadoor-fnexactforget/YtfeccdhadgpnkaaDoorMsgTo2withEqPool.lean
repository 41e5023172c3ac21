import Derived.Test.YtfeccdhadgpnkaaDoorMsgTowithMarkStr
import Derived.Test.YtfeccdhadgpnkaaDoorMarkWantwithMarkConn
namespace Go.Proofs.YtfeccdhadgpnkaaDoor.Msg
open Go.ChangeShapes Go.WideShapes Go.ChangeAt Go.RowKit
set_option linter.unusedVariables false
set_option linter.unusedSimpArgs false

theorem bcells {W w1 : World} (hb : Below W.heap.size W w1) : (∀ b o, b < W.heap.size → w1.cell? ⟨b, o, none⟩ = W.cell? ⟨b, o, none⟩) ∧ (∀ b o, b < W.heap.size → w1.frozen? ⟨b, o, none⟩ = W.frozen? ⟨b, o, none⟩) :=
  ⟨fun b o h => hb.cell (p := ⟨b, o, none⟩) h, fun b o h => hb.frozen (p := ⟨b, o, none⟩) h⟩

theorem Same.setCell {lo : Nat} {w w' : World} (h : Same lo w w') {b o : Nat} (hb : b < lo) (v : Value) : Same lo w (w'.setCell ⟨b, o, none⟩ v) :=
  ⟨by rw [Deep.nblk_setCell]; exact h.1, fun k h1 h2 => by rw [Deep.blk_setCell_other _ _ _ _ (by simp; omega)]; exact h.2 k h1 h2⟩
theorem Same.drew {lo : Nat} {w w' : World} (h : Same lo w w') : Same lo w w'.drew := h

/-- the state of a loop that fills a row of new elements, one cell each -/
def Filling {α : Type} (A : Nat → World → Value → α → Prop) (w : World) (t : TypeId) (xs : List α) (k : Nat) (w1 : World) : Prop :=
  (∃ f, w1.rowIs w.heap.size t xs.length f ∧ ∀ j (h : j < xs.length), j < k → A (w.heap.size + 1) w1 (f j) xs[j]) ∧ Below w.heap.size w w1

theorem filling_step {α : Type} {A : Nat → World → Value → α → Prop} (hsame : ∀ lo w w' v x, A lo w v x → Same lo w w' → A lo w' v x) (hmono : ∀ lo lo' w v x, A lo w v x → lo' ≤ lo → A lo' w v x)
    {w wr w2 : World} {t : TypeId} {xs : List α} {k : Nat} (h : Filling A w t xs k wr) (hb2 : Below wr.heap.size wr w2) (hk : k < xs.length) {u : Value} (hu : A wr.heap.size w2 u xs[k]) :
    Filling A w t xs (k + 1) (w2.setCell ⟨w.heap.size, k, none⟩ u) := by
  obtain ⟨⟨f, hrow, hel⟩, hb⟩ := h
  have hlt := hrow.lt
  have hrow2 := hrow.of_block (hb2.block _ hlt)
  refine ⟨⟨_, hrow2.set k u, fun j hj hjk => ?_⟩, (hb.trans (hb2.mono hb.size)).setCell (by simp) _⟩
  by_cases e : j = k
  · subst e
    rw [if_pos rfl]
    exact hsame _ _ _ _ _ (hmono _ (w.heap.size + 1) _ _ _ hu (by omega)) ((Same.refl _ _).setCell (by omega) _)
  · rw [if_neg e]
    have h1 := hel j hj (by omega)
    exact hsame _ _ _ _ _ (hsame _ _ _ _ _ h1 (Same.of_below hb2)) ((Same.refl _ _).setCell (by omega) _)

theorem reps_of_filling {w w1 : World} {t : TypeId} {xs : List Rep} {cap : Nat} (hl : xs.length ≤ 9223372036854775807) (h : Filling StrsAt w t xs xs.length w1) :
    RepsAt w.heap.size w1 (.slice (some ⟨w.heap.size, 0, none⟩) xs.length cap) xs := by
  obtain ⟨⟨f, hrow, hel⟩, hb⟩ := h
  exact ⟨hl, .inr ⟨_, 0, cap, rfl, ⟨Nat.le_refl _, hrow.lt⟩, fun i hi => ⟨f i, by have := hrow.cell hi; simpa using this, At.mono mono_str (hel i hi hi) (by omega)⟩⟩⟩

end Go.Proofs.YtfeccdhadgpnkaaDoor.Msg

namespace Go.Proofs.YtfeccdhadgpnkaaDoor.Msg
open Go.ChangeShapes Go.WideShapes Go.ChangeAt Go.RowKit
set_option linter.unusedVariables false
set_option linter.unusedSimpArgs false

set_option maxHeartbeats 1000000 in
theorem eqWn_any (x : Wn) (w : World) : Calls Tryd.prog 21 #[wnV x, wnV x] w fun e w' => e = .returned (.bool true) ∧ Below w.heap.size w w' := by
  obtain ⟨client, tag, query, pointer⟩ := x
  show Calls Tryd.prog 21 #[.agg #[.int .i64 client, .string tag, .string query, .string pointer], .agg #[.int .i64 client, .string tag, .string query, .string pointer]] w _
  have HB0 := hide (((Below.refl w.heap.size w).alloc (Nat.le_refl _) (Obj.cells #[.int .i64 client, .string tag, .string query, .string pointer] 38)).alloc (by simp) (Obj.cells #[.int .i64 client, .string tag, .string query, .string pointer] 38))
  go_enter Tryd.func21, Tryd.ntmps21
  go_wp2_with fail
  go_ret
  exact ⟨rfl, HB0.out⟩
set_option maxHeartbeats 2000000 in
theorem eqCn_any (x : Cn) (w : World) : Calls Tryd.prog 71 #[cnV x, cnV x] w fun e w' => e = .returned (.bool true) ∧ Below w.heap.size w w' := by
  obtain ⟨busy, control, ⟨client, tag, query, pointer⟩, due⟩ := x
  show Calls Tryd.prog 71 #[.agg #[.bool busy, .string control, .int .i64 client, .string tag, .string query, .string pointer, .int .i64 due], .agg #[.bool busy, .string control, .int .i64 client, .string tag, .string query, .string pointer, .int .i64 due]] w _
  have HB0 := hide (((Below.refl w.heap.size w).alloc (Nat.le_refl _) (Obj.cells #[.bool busy, .string control, .int .i64 client, .string tag, .string query, .string pointer, .int .i64 due] 85)).alloc (by simp) (Obj.cells #[.bool busy, .string control, .int .i64 client, .string tag, .string query, .string pointer, .int .i64 due] 85))
  go_enter Tryd.func71, Tryd.ntmps71
  go_wp2_with fail
  refine (eqWn_any ⟨client, tag, query, pointer⟩ _).mono ?_
  rintro e w4 ⟨rfl, hb⟩
  obtain ⟨hc, hf⟩ := bcells hb
  have HB := hide hb
  clear hb
  go_wp2_with fail
  go_ret
  exact ⟨rfl, HB0.out.trans (HB.out.mono (by simp; omega))⟩
set_option maxHeartbeats 2000000 in
theorem eqSt_any (x : St) (w : World) : Calls Tryd.prog 47 #[stV x, stV x] w fun e w' => e = .returned (.bool true) ∧ Below w.heap.size w w' := by
  obtain ⟨conn, control, ⟨client, tag, query, pointer⟩⟩ := x
  show Calls Tryd.prog 47 #[.agg #[.int .i64 conn, .string control, .int .i64 client, .string tag, .string query, .string pointer], .agg #[.int .i64 conn, .string control, .int .i64 client, .string tag, .string query, .string pointer]] w _
  have HB0 := hide (((Below.refl w.heap.size w).alloc (Nat.le_refl _) (Obj.cells #[.int .i64 conn, .string control, .int .i64 client, .string tag, .string query, .string pointer] 81)).alloc (by simp) (Obj.cells #[.int .i64 conn, .string control, .int .i64 client, .string tag, .string query, .string pointer] 81))
  go_enter Tryd.func47, Tryd.ntmps47
  go_wp2_with fail
  refine (eqWn_any ⟨client, tag, query, pointer⟩ _).mono ?_
  rintro e w4 ⟨rfl, hb⟩
  obtain ⟨hc, hf⟩ := bcells hb
  have HB := hide hb
  clear hb
  go_wp2_with fail
  go_ret
  exact ⟨rfl, HB0.out.trans (HB.out.mono (by simp; omega))⟩
set_option maxHeartbeats 2000000 in
theorem eqWns_any (xs : List Wn) (v u : Value) (w : World) {lo lo2 : Nat} (hv : WnsAt lo w v xs) (hu : WnsAt lo2 w u xs) :
    Calls Tryd.prog 24 #[v, u] w fun e w' => e = .returned (.bool true) ∧ Below w.heap.size w w' := by
  obtain ⟨hl, hv⟩ := hv
  obtain ⟨_, hu⟩ := hu
  by_cases hx : xs = []
  · subst hx
    obtain ⟨a0, c0, rfl⟩ : ∃ a c, v = .slice a 0 c := by
      rcases hv with ⟨_, _, rfl, _⟩ | ⟨b, off, cap, rfl, _⟩
      · exact ⟨_, _, rfl⟩
      · exact ⟨_, _, rfl⟩
    obtain ⟨a1, c1, rfl⟩ : ∃ a c, u = .slice a 0 c := by
      rcases hu with ⟨_, _, rfl, _⟩ | ⟨b, off, cap, rfl, _⟩
      · exact ⟨_, _, rfl⟩
      · exact ⟨_, _, rfl⟩
    clear hv hu
    go_enter Tryd.func24, Tryd.ntmps24
    go_wp2
    go_loop [5] (fun i => i = .int .i64 0) (fun _ => 0)
    case atStart => rfl
    case round =>
      subst hrel
      go_wp2
      go_ret
      exact ⟨rfl, Below.refl _ _⟩
  · rcases hv with ⟨_, _, _, e⟩ | ⟨b, off, cap, rfl, ⟨_, hlt⟩, hc⟩
    · exact absurd e hx
    rcases hu with ⟨_, _, _, e⟩ | ⟨b2, off2, cap2, rfl, ⟨_, hlt2⟩, hc2⟩
    · exact absurd e hx
    clear hx
    go_enter Tryd.func24, Tryd.ntmps24
    go_wp2
    go_loopw [5] (fun i w1 => ∃ k : Nat, k ≤ xs.length ∧ i = .int .i64 k ∧ Below w.heap.size w w1) (fun i _ => xs.length - (intOf i).toNat)
    case atStart => exact ⟨0, Nat.zero_le _, rfl, Below.refl _ _⟩
    case round =>
      obtain ⟨k, hk, rfl, hb⟩ := hrel
      by_cases hk2 : k < xs.length
      · obtain ⟨x, hxk⟩ : ∃ x, xs[k] = x := ⟨_, rfl⟩
        obtain ⟨p, hp⟩ : ∃ p, off + k * 4 = p := ⟨_, rfl⟩
        obtain ⟨p2, hp2⟩ : ∃ p2, off2 + k * 4 = p2 := ⟨_, rfl⟩
        have g := (hc k hk2).1
        have g2 := (hc2 k hk2).1
        rw [hxk, hp] at g
        rw [hxk, hp2] at g2
        have KS : Hid (∀ X, Below w.heap.size w X → (X.cell? ⟨b, p, none⟩ = some (.int .i64 x.client) ∧ X.cell? ⟨b, p + 1, none⟩ = some (.string x.tag) ∧ X.cell? ⟨b, p + 2, none⟩ = some (.string x.query) ∧ X.cell? ⟨b, p + 3, none⟩ = some (.string x.pointer)) ∧ (X.cell? ⟨b2, p2, none⟩ = some (.int .i64 x.client) ∧ X.cell? ⟨b2, p2 + 1, none⟩ = some (.string x.tag) ∧ X.cell? ⟨b2, p2 + 2, none⟩ = some (.string x.query) ∧ X.cell? ⟨b2, p2 + 3, none⟩ = some (.string x.pointer)) ∧ Below w.heap.size w X) := fun X h =>
          ⟨⟨(h.cell (p := ⟨b, p, none⟩) hlt).trans (g 0 (by simp [wnC])), (h.cell (p := ⟨b, p + 1, none⟩) hlt).trans (g 1 (by simp [wnC])), (h.cell (p := ⟨b, p + 2, none⟩) hlt).trans (g 2 (by simp [wnC])), (h.cell (p := ⟨b, p + 3, none⟩) hlt).trans (g 3 (by simp [wnC]))⟩, ⟨(h.cell (p := ⟨b2, p2, none⟩) hlt2).trans (g2 0 (by simp [wnC])), (h.cell (p := ⟨b2, p2 + 1, none⟩) hlt2).trans (g2 1 (by simp [wnC])), (h.cell (p := ⟨b2, p2 + 2, none⟩) hlt2).trans (g2 2 (by simp [wnC])), (h.cell (p := ⟨b2, p2 + 3, none⟩) hlt2).trans (g2 3 (by simp [wnC]))⟩, h⟩
        have hi : (k : Int) < (xs.length : Int) := by omega
        have hi0 : (0 : Int) ≤ (k : Int) := by omega
        have HB := hide hb
        clear hc hc2 g g2 hxk hb
        go_wp2_with fail
        obtain ⟨D, hwd⟩ : ∃ D, wr.drew = D := ⟨_, rfl⟩
        have hbd0 : Below w.heap.size w wr.drew := bjoin (Below.refl _ _).drew HB.out
        have hD : Below w.heap.size w D := by rw [← hwd]; exact hbd0
        go_region_held3 (fun X => (X.cell? ⟨b, p, none⟩ = some (.int .i64 x.client) ∧ X.cell? ⟨b, p + 1, none⟩ = some (.string x.tag) ∧ X.cell? ⟨b, p + 2, none⟩ = some (.string x.query) ∧ X.cell? ⟨b, p + 3, none⟩ = some (.string x.pointer)) ∧ (X.cell? ⟨b2, p2, none⟩ = some (.int .i64 x.client) ∧ X.cell? ⟨b2, p2 + 1, none⟩ = some (.string x.tag) ∧ X.cell? ⟨b2, p2 + 2, none⟩ = some (.string x.query) ∧ X.cell? ⟨b2, p2 + 3, none⟩ = some (.string x.pointer)) ∧ Below w.heap.size w X)
          (first | with_reducible exact KS.out _ hbd0 | with_reducible exact KS.out _ hD | with_reducible exact KS.out _ hb9)
          (first | (go_at_call 21; refine (eqWn_any x _).mono ?_; rintro e w2 ⟨rfl, hb2⟩; have hb9 : Below w.heap.size w w2 := bjoin hb2 hD))
        go_wp2_with fail
        go_roundw
        case rel => exact ⟨k + 1, by omega, by go_num, hb9⟩
        case measure => simp [intOf]; omega
      · go_wp2
        go_ret
        exact ⟨rfl, hb⟩
set_option maxHeartbeats 2000000 in
theorem eqCns_any (xs : List Cn) (v u : Value) (w : World) {lo lo2 : Nat} (hv : CnsAt lo w v xs) (hu : CnsAt lo2 w u xs) :
    Calls Tryd.prog 46 #[v, u] w fun e w' => e = .returned (.bool true) ∧ Below w.heap.size w w' := by
  obtain ⟨hl, hv⟩ := hv
  obtain ⟨_, hu⟩ := hu
  by_cases hx : xs = []
  · subst hx
    obtain ⟨a0, c0, rfl⟩ : ∃ a c, v = .slice a 0 c := by
      rcases hv with ⟨_, _, rfl, _⟩ | ⟨b, off, cap, rfl, _⟩
      · exact ⟨_, _, rfl⟩
      · exact ⟨_, _, rfl⟩
    obtain ⟨a1, c1, rfl⟩ : ∃ a c, u = .slice a 0 c := by
      rcases hu with ⟨_, _, rfl, _⟩ | ⟨b, off, cap, rfl, _⟩
      · exact ⟨_, _, rfl⟩
      · exact ⟨_, _, rfl⟩
    clear hv hu
    go_enter Tryd.func46, Tryd.ntmps46
    go_wp2
    go_loop [5] (fun i => i = .int .i64 0) (fun _ => 0)
    case atStart => rfl
    case round =>
      subst hrel
      go_wp2
      go_ret
      exact ⟨rfl, Below.refl _ _⟩
  · rcases hv with ⟨_, _, _, e⟩ | ⟨b, off, cap, rfl, ⟨_, hlt⟩, hc⟩
    · exact absurd e hx
    rcases hu with ⟨_, _, _, e⟩ | ⟨b2, off2, cap2, rfl, ⟨_, hlt2⟩, hc2⟩
    · exact absurd e hx
    clear hx
    go_enter Tryd.func46, Tryd.ntmps46
    go_wp2
    go_loopw [5] (fun i w1 => ∃ k : Nat, k ≤ xs.length ∧ i = .int .i64 k ∧ Below w.heap.size w w1) (fun i _ => xs.length - (intOf i).toNat)
    case atStart => exact ⟨0, Nat.zero_le _, rfl, Below.refl _ _⟩
    case round =>
      obtain ⟨k, hk, rfl, hb⟩ := hrel
      by_cases hk2 : k < xs.length
      · obtain ⟨x, hxk⟩ : ∃ x, xs[k] = x := ⟨_, rfl⟩
        obtain ⟨p, hp⟩ : ∃ p, off + k * 7 = p := ⟨_, rfl⟩
        obtain ⟨p2, hp2⟩ : ∃ p2, off2 + k * 7 = p2 := ⟨_, rfl⟩
        have g := (hc k hk2).1
        have g2 := (hc2 k hk2).1
        rw [hxk, hp] at g
        rw [hxk, hp2] at g2
        have KS : Hid (∀ X, Below w.heap.size w X → (X.cell? ⟨b, p, none⟩ = some (.bool x.busy) ∧ X.cell? ⟨b, p + 1, none⟩ = some (.string x.control) ∧ X.cell? ⟨b, p + 2, none⟩ = some (.int .i64 x.want.client) ∧ X.cell? ⟨b, p + 3, none⟩ = some (.string x.want.tag) ∧ X.cell? ⟨b, p + 4, none⟩ = some (.string x.want.query) ∧ X.cell? ⟨b, p + 5, none⟩ = some (.string x.want.pointer) ∧ X.cell? ⟨b, p + 6, none⟩ = some (.int .i64 x.due)) ∧ (X.cell? ⟨b2, p2, none⟩ = some (.bool x.busy) ∧ X.cell? ⟨b2, p2 + 1, none⟩ = some (.string x.control) ∧ X.cell? ⟨b2, p2 + 2, none⟩ = some (.int .i64 x.want.client) ∧ X.cell? ⟨b2, p2 + 3, none⟩ = some (.string x.want.tag) ∧ X.cell? ⟨b2, p2 + 4, none⟩ = some (.string x.want.query) ∧ X.cell? ⟨b2, p2 + 5, none⟩ = some (.string x.want.pointer) ∧ X.cell? ⟨b2, p2 + 6, none⟩ = some (.int .i64 x.due)) ∧ Below w.heap.size w X) := fun X h =>
          ⟨⟨(h.cell (p := ⟨b, p, none⟩) hlt).trans (g 0 (by simp [cnC])), (h.cell (p := ⟨b, p + 1, none⟩) hlt).trans (g 1 (by simp [cnC])), (h.cell (p := ⟨b, p + 2, none⟩) hlt).trans (g 2 (by simp [cnC])), (h.cell (p := ⟨b, p + 3, none⟩) hlt).trans (g 3 (by simp [cnC])), (h.cell (p := ⟨b, p + 4, none⟩) hlt).trans (g 4 (by simp [cnC])), (h.cell (p := ⟨b, p + 5, none⟩) hlt).trans (g 5 (by simp [cnC])), (h.cell (p := ⟨b, p + 6, none⟩) hlt).trans (g 6 (by simp [cnC]))⟩, ⟨(h.cell (p := ⟨b2, p2, none⟩) hlt2).trans (g2 0 (by simp [cnC])), (h.cell (p := ⟨b2, p2 + 1, none⟩) hlt2).trans (g2 1 (by simp [cnC])), (h.cell (p := ⟨b2, p2 + 2, none⟩) hlt2).trans (g2 2 (by simp [cnC])), (h.cell (p := ⟨b2, p2 + 3, none⟩) hlt2).trans (g2 3 (by simp [cnC])), (h.cell (p := ⟨b2, p2 + 4, none⟩) hlt2).trans (g2 4 (by simp [cnC])), (h.cell (p := ⟨b2, p2 + 5, none⟩) hlt2).trans (g2 5 (by simp [cnC])), (h.cell (p := ⟨b2, p2 + 6, none⟩) hlt2).trans (g2 6 (by simp [cnC]))⟩, h⟩
        have hi : (k : Int) < (xs.length : Int) := by omega
        have hi0 : (0 : Int) ≤ (k : Int) := by omega
        have HB := hide hb
        clear hc hc2 g g2 hxk hb
        go_wp2_with fail
        obtain ⟨D, hwd⟩ : ∃ D, wr.drew = D := ⟨_, rfl⟩
        have hbd0 : Below w.heap.size w wr.drew := bjoin (Below.refl _ _).drew HB.out
        have hD : Below w.heap.size w D := by rw [← hwd]; exact hbd0
        go_region_held3 (fun X => (X.cell? ⟨b, p, none⟩ = some (.bool x.busy) ∧ X.cell? ⟨b, p + 1, none⟩ = some (.string x.control) ∧ X.cell? ⟨b, p + 2, none⟩ = some (.int .i64 x.want.client) ∧ X.cell? ⟨b, p + 3, none⟩ = some (.string x.want.tag) ∧ X.cell? ⟨b, p + 4, none⟩ = some (.string x.want.query) ∧ X.cell? ⟨b, p + 5, none⟩ = some (.string x.want.pointer) ∧ X.cell? ⟨b, p + 6, none⟩ = some (.int .i64 x.due)) ∧ (X.cell? ⟨b2, p2, none⟩ = some (.bool x.busy) ∧ X.cell? ⟨b2, p2 + 1, none⟩ = some (.string x.control) ∧ X.cell? ⟨b2, p2 + 2, none⟩ = some (.int .i64 x.want.client) ∧ X.cell? ⟨b2, p2 + 3, none⟩ = some (.string x.want.tag) ∧ X.cell? ⟨b2, p2 + 4, none⟩ = some (.string x.want.query) ∧ X.cell? ⟨b2, p2 + 5, none⟩ = some (.string x.want.pointer) ∧ X.cell? ⟨b2, p2 + 6, none⟩ = some (.int .i64 x.due)) ∧ Below w.heap.size w X)
          (first | with_reducible exact KS.out _ hbd0 | with_reducible exact KS.out _ hD | with_reducible exact KS.out _ hb9)
          (first | (go_at_call 71; refine (eqCn_any x _).mono ?_; rintro e w2 ⟨rfl, hb2⟩; have hb9 : Below w.heap.size w w2 := bjoin hb2 hD))
        go_wp2_with fail
        go_roundw
        case rel => exact ⟨k + 1, by omega, by go_num, hb9⟩
        case measure => simp [intOf]; omega
      · go_wp2
        go_ret
        exact ⟨rfl, hb⟩
set_option maxHeartbeats 2000000 in
theorem eqSts_any (xs : List St) (v u : Value) (w : World) {lo lo2 : Nat} (hv : StsAt lo w v xs) (hu : StsAt lo2 w u xs) :
    Calls Tryd.prog 14 #[v, u] w fun e w' => e = .returned (.bool true) ∧ Below w.heap.size w w' := by
  obtain ⟨hl, hv⟩ := hv
  obtain ⟨_, hu⟩ := hu
  by_cases hx : xs = []
  · subst hx
    obtain ⟨a0, c0, rfl⟩ : ∃ a c, v = .slice a 0 c := by
      rcases hv with ⟨_, _, rfl, _⟩ | ⟨b, off, cap, rfl, _⟩
      · exact ⟨_, _, rfl⟩
      · exact ⟨_, _, rfl⟩
    obtain ⟨a1, c1, rfl⟩ : ∃ a c, u = .slice a 0 c := by
      rcases hu with ⟨_, _, rfl, _⟩ | ⟨b, off, cap, rfl, _⟩
      · exact ⟨_, _, rfl⟩
      · exact ⟨_, _, rfl⟩
    clear hv hu
    go_enter Tryd.func14, Tryd.ntmps14
    go_wp2
    go_loop [5] (fun i => i = .int .i64 0) (fun _ => 0)
    case atStart => rfl
    case round =>
      subst hrel
      go_wp2
      go_ret
      exact ⟨rfl, Below.refl _ _⟩
  · rcases hv with ⟨_, _, _, e⟩ | ⟨b, off, cap, rfl, ⟨_, hlt⟩, hc⟩
    · exact absurd e hx
    rcases hu with ⟨_, _, _, e⟩ | ⟨b2, off2, cap2, rfl, ⟨_, hlt2⟩, hc2⟩
    · exact absurd e hx
    clear hx
    go_enter Tryd.func14, Tryd.ntmps14
    go_wp2
    go_loopw [5] (fun i w1 => ∃ k : Nat, k ≤ xs.length ∧ i = .int .i64 k ∧ Below w.heap.size w w1) (fun i _ => xs.length - (intOf i).toNat)
    case atStart => exact ⟨0, Nat.zero_le _, rfl, Below.refl _ _⟩
    case round =>
      obtain ⟨k, hk, rfl, hb⟩ := hrel
      by_cases hk2 : k < xs.length
      · obtain ⟨x, hxk⟩ : ∃ x, xs[k] = x := ⟨_, rfl⟩
        obtain ⟨p, hp⟩ : ∃ p, off + k * 6 = p := ⟨_, rfl⟩
        obtain ⟨p2, hp2⟩ : ∃ p2, off2 + k * 6 = p2 := ⟨_, rfl⟩
        have g := (hc k hk2).1
        have g2 := (hc2 k hk2).1
        rw [hxk, hp] at g
        rw [hxk, hp2] at g2
        have KS : Hid (∀ X, Below w.heap.size w X → (X.cell? ⟨b, p, none⟩ = some (.int .i64 x.conn) ∧ X.cell? ⟨b, p + 1, none⟩ = some (.string x.control) ∧ X.cell? ⟨b, p + 2, none⟩ = some (.int .i64 x.want.client) ∧ X.cell? ⟨b, p + 3, none⟩ = some (.string x.want.tag) ∧ X.cell? ⟨b, p + 4, none⟩ = some (.string x.want.query) ∧ X.cell? ⟨b, p + 5, none⟩ = some (.string x.want.pointer)) ∧ (X.cell? ⟨b2, p2, none⟩ = some (.int .i64 x.conn) ∧ X.cell? ⟨b2, p2 + 1, none⟩ = some (.string x.control) ∧ X.cell? ⟨b2, p2 + 2, none⟩ = some (.int .i64 x.want.client) ∧ X.cell? ⟨b2, p2 + 3, none⟩ = some (.string x.want.tag) ∧ X.cell? ⟨b2, p2 + 4, none⟩ = some (.string x.want.query) ∧ X.cell? ⟨b2, p2 + 5, none⟩ = some (.string x.want.pointer)) ∧ Below w.heap.size w X) := fun X h =>
          ⟨⟨(h.cell (p := ⟨b, p, none⟩) hlt).trans (g 0 (by simp [stC])), (h.cell (p := ⟨b, p + 1, none⟩) hlt).trans (g 1 (by simp [stC])), (h.cell (p := ⟨b, p + 2, none⟩) hlt).trans (g 2 (by simp [stC])), (h.cell (p := ⟨b, p + 3, none⟩) hlt).trans (g 3 (by simp [stC])), (h.cell (p := ⟨b, p + 4, none⟩) hlt).trans (g 4 (by simp [stC])), (h.cell (p := ⟨b, p + 5, none⟩) hlt).trans (g 5 (by simp [stC]))⟩, ⟨(h.cell (p := ⟨b2, p2, none⟩) hlt2).trans (g2 0 (by simp [stC])), (h.cell (p := ⟨b2, p2 + 1, none⟩) hlt2).trans (g2 1 (by simp [stC])), (h.cell (p := ⟨b2, p2 + 2, none⟩) hlt2).trans (g2 2 (by simp [stC])), (h.cell (p := ⟨b2, p2 + 3, none⟩) hlt2).trans (g2 3 (by simp [stC])), (h.cell (p := ⟨b2, p2 + 4, none⟩) hlt2).trans (g2 4 (by simp [stC])), (h.cell (p := ⟨b2, p2 + 5, none⟩) hlt2).trans (g2 5 (by simp [stC]))⟩, h⟩
        have hi : (k : Int) < (xs.length : Int) := by omega
        have hi0 : (0 : Int) ≤ (k : Int) := by omega
        have HB := hide hb
        clear hc hc2 g g2 hxk hb
        go_wp2_with fail
        obtain ⟨D, hwd⟩ : ∃ D, wr.drew = D := ⟨_, rfl⟩
        have hbd0 : Below w.heap.size w wr.drew := bjoin (Below.refl _ _).drew HB.out
        have hD : Below w.heap.size w D := by rw [← hwd]; exact hbd0
        go_region_held3 (fun X => (X.cell? ⟨b, p, none⟩ = some (.int .i64 x.conn) ∧ X.cell? ⟨b, p + 1, none⟩ = some (.string x.control) ∧ X.cell? ⟨b, p + 2, none⟩ = some (.int .i64 x.want.client) ∧ X.cell? ⟨b, p + 3, none⟩ = some (.string x.want.tag) ∧ X.cell? ⟨b, p + 4, none⟩ = some (.string x.want.query) ∧ X.cell? ⟨b, p + 5, none⟩ = some (.string x.want.pointer)) ∧ (X.cell? ⟨b2, p2, none⟩ = some (.int .i64 x.conn) ∧ X.cell? ⟨b2, p2 + 1, none⟩ = some (.string x.control) ∧ X.cell? ⟨b2, p2 + 2, none⟩ = some (.int .i64 x.want.client) ∧ X.cell? ⟨b2, p2 + 3, none⟩ = some (.string x.want.tag) ∧ X.cell? ⟨b2, p2 + 4, none⟩ = some (.string x.want.query) ∧ X.cell? ⟨b2, p2 + 5, none⟩ = some (.string x.want.pointer)) ∧ Below w.heap.size w X)
          (first | with_reducible exact KS.out _ hbd0 | with_reducible exact KS.out _ hD | with_reducible exact KS.out _ hb9)
          (first | (go_at_call 47; refine (eqSt_any x _).mono ?_; rintro e w2 ⟨rfl, hb2⟩; have hb9 : Below w.heap.size w w2 := bjoin hb2 hD))
        go_wp2_with fail
        go_roundw
        case rel => exact ⟨k + 1, by omega, by go_num, hb9⟩
        case measure => simp [intOf]; omega
      · go_wp2
        go_ret
        exact ⟨rfl, hb⟩
set_option maxHeartbeats 1000000 in
theorem eqPl_any (x : Pl) (cv qv cv2 qv2 : Value) (w : World) {l1 l2 l3 l4 : Nat} (h1 : CnsAt l1 w cv x.conns) (h2 : WnsAt l2 w qv x.queue) (h3 : CnsAt l3 w cv2 x.conns) (h4 : WnsAt l4 w qv2 x.queue) :
    Calls Tryd.prog 13 #[plV x cv qv, plV x cv2 qv2] w fun e w' => e = .returned (.bool true) ∧ Below w.heap.size w w' := by
  obtain ⟨epoch, next, conns, queue⟩ := x
  simp only at h1 h2 h3 h4
  show Calls Tryd.prog 13 #[.agg #[.int .i64 epoch, .int .i64 next, cv, qv], .agg #[.int .i64 epoch, .int .i64 next, cv2, qv2]] w _
  have hb0 := ((Below.refl w.heap.size w).alloc (Nat.le_refl _) (Obj.cells #[.int .i64 epoch, .int .i64 next, cv, qv] 33)).alloc (by simp) (Obj.cells #[.int .i64 epoch, .int .i64 next, cv2, qv2] 33)
  have HE1 := hide (eqCns_any conns cv cv2 _ (At.kept kept_flat h1 hb0) (At.kept kept_flat h3 hb0))
  have HE2 := hide (fun W hW => eqWns_any queue qv qv2 W (At.kept kept_flat h2 (w' := W) hW) (At.kept kept_flat h4 (w' := W) hW))
  obtain ⟨a1, n1, rfl, _⟩ := h1.form
  obtain ⟨a2, n2, rfl, _⟩ := h2.form
  obtain ⟨a3, n3, rfl, _⟩ := h3.form
  obtain ⟨a4, n4, rfl, _⟩ := h4.form
  have HB0 := hide hb0
  clear h1 h2 h3 h4 hb0
  go_enter Tryd.func13, Tryd.ntmps13
  go_wp2_with fail
  refine HE1.out.mono ?_
  rintro e w4 ⟨rfl, hb⟩
  obtain ⟨hc, hf⟩ := bcells hb
  have HB := hide (HB0.out.trans (hb.mono (by simp; omega)))
  clear hb
  go_wp2_with fail
  refine (HE2.out _ HB.out).mono ?_
  rintro e w5 ⟨rfl, hb⟩
  have HB5 := hide (HB.out.trans (hb.mono HB.out.size))
  clear hb
  go_wp2_with fail
  go_ret
  exact ⟨rfl, HB5.out⟩

set_option maxHeartbeats 1000000 in
theorem markPl_any (x : Pl) (cv qv : Value) (nc nq : Nat) (f g : Nat → Value) (b1 b2 : List Nat) (k : Nat) (w : World) (hk : 1 ≤ k) (hn : k + nc * 7 + nq * 4 ≤ 4611686018427387904) (h1 : RowC w cv nc 7 f b1) (h2 : RowC w qv nq 4 g b2) (hd : ∀ d ∈ b1, d ∉ b2) :
    Calls Tryd.prog 15 #[plV x cv qv, .int .i64 (k : Int)] w fun e w' => e = .returned (.int .i64 ((k + nc * 7 + nq * 4 : Nat) : Int)) ∧ Only (b1 ++ b2) w w' ∧ RowC w' cv nc 7 (mvConn k) b1 ∧ RowC w' qv nq 4 (mvWant (k + nc * 7)) b2 := by
  obtain ⟨epoch, next, conns, queue⟩ := x
  show Calls Tryd.prog 15 #[.agg #[.int .i64 epoch, .int .i64 next, cv, qv], .int .i64 (k : Int)] w _
  have hb0 := (Below.refl w.heap.size w).alloc (Nat.le_refl _) (Obj.cells #[.int .i64 epoch, .int .i64 next, cv, qv] 33)
  have L1 := h1.lt
  have L2 := h2.lt
  have HE1 := hide (markConns_any nc cv f b1 k _ hk (by omega) (h1.below hb0))
  have HE2 := hide (fun W (hW : Only b1 (w.alloc (Obj.cells #[.int .i64 epoch, .int .i64 next, cv, qv] 33)) W) => markWants_any nq qv g b2 (k + nc * 7) W (by omega) (by omega) ((h2.below hb0).kept hW.size fun d hd2 => hW.block d (by have := L2 d hd2; simp; omega) fun h => hd d h hd2))
  obtain ⟨a1, n1, rfl⟩ := h1.form
  obtain ⟨a2, n2, rfl⟩ := h2.form
  have HB0 := hide hb0
  have HL1 := hide L1
  have HL2 := hide L2
  have HD := hide hd
  clear h1 h2 hb0 L1 L2 hd
  go_enter Tryd.func15, Tryd.ntmps15
  go_wp2_with fail
  refine HE1.out.mono ?_
  rintro e w4 ⟨rfl, hO, hR⟩
  have hz : w.heap.size ∉ b1 := fun h => by have := HL1.out _ h; omega
  have hbox := hO.block w.heap.size (by simp) hz
  have hc3 : w4.cell? ⟨w.heap.size, 3, none⟩ = some (.slice a2 nq n2) := by rw [cellSame hbox]; simp
  have HO := hide hO
  have HR := hide hR
  clear hO hR hbox hz
  go_wp2_with fail
  refine (HE2.out _ HO.out).mono ?_
  rintro e w5 ⟨rfl, hO2, hR2⟩
  have HO2 := hide hO2
  have HR2 := hide hR2
  clear hO2 hR2
  go_wp2_with fail
  go_ret
  refine ⟨ret_int (by omega), ?_, ?_, HR2.out⟩
  · exact (Only.of_below HB0.out).trans ((HO.out.mono fun b h => List.mem_append.2 (.inl h)).trans (HO2.out.mono fun b h => List.mem_append.2 (.inr h)))
  · exact HR.out.kept HO2.out.size fun d h => HO2.out.block d (HR.out.lt d h) (HD.out d h)

set_option maxHeartbeats 1000000 in
theorem heldPl_any (x : Pl) (cv qv : Value) (nc nq : Nat) (b1 b2 : List Nat) (k : Nat) (w : World) (hk : 1 ≤ k) (hn : k + nc * 7 + nq * 4 ≤ 4611686018427387904) (h1 : RowC w cv nc 7 (mvConn k) b1) (h2 : RowC w qv nq 4 (mvWant (k + nc * 7)) b2) :
    Calls Tryd.prog 17 #[plV x cv qv, .int .i64 (k : Int)] w fun e w' => e = .returned (.int .i64 ((k + nc * 7 + nq * 4 : Nat) : Int)) ∧ Below w.heap.size w w' := by
  obtain ⟨epoch, next, conns, queue⟩ := x
  show Calls Tryd.prog 17 #[.agg #[.int .i64 epoch, .int .i64 next, cv, qv], .int .i64 (k : Int)] w _
  have hb0 := (Below.refl w.heap.size w).alloc (Nat.le_refl _) (Obj.cells #[.int .i64 epoch, .int .i64 next, cv, qv] 33)
  have HE1 := hide (heldConns_any nc cv b1 k _ hk (by omega) (h1.below hb0))
  have HE2 := hide (fun W (hW : Below w.heap.size w W) => heldWants_any nq qv b2 (k + nc * 7) W (by omega) (by omega) (h2.below hW))
  obtain ⟨a1, n1, rfl⟩ := h1.form
  obtain ⟨a2, n2, rfl⟩ := h2.form
  have HB0 := hide hb0
  have hn1 : ¬ ((k + nc * 7 : Nat) : Int) < 0 := by omega
  have hn2 : ¬ ((k + nc * 7 + nq * 4 : Nat) : Int) < 0 := by omega
  clear h1 h2 hb0
  go_enter Tryd.func17, Tryd.ntmps17
  go_wp2_with fail
  refine HE1.out.mono ?_
  rintro e w4 ⟨rfl, hb⟩
  obtain ⟨hc, hf⟩ := bcells hb
  have HB := hide (HB0.out.trans (hb.mono (by simp)))
  clear hb
  go_wp2_with fail
  refine (HE2.out _ HB.out).mono ?_
  rintro e w5 ⟨rfl, hb⟩
  have HB5 := hide (HB.out.trans (hb.mono HB.out.size))
  clear hb
  go_wp2_with fail
  go_ret
  exact ⟨ret_int (by omega), HB5.out⟩
end Go.Proofs.YtfeccdhadgpnkaaDoor.Msg
