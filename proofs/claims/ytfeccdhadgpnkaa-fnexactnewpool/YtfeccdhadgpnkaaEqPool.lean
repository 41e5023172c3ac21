import Derived.Test.YtfeccdhadgpnkaaMarkConn
import Derived.Test.YtfeccdhadgpnkaaMsgTo2
namespace Go.Proofs.Ytfeccdhadgpnkaa.Msg
open Go.ChangeShapes Go.WideShapes Go.ChangeAt Go.RowKit
set_option linter.unusedVariables false
set_option linter.unusedSimpArgs false

set_option maxHeartbeats 1000000 in
theorem eqWn_any (x : Wn) (w : World) : Calls Try.prog 17 #[wnV x, wnV x] w fun e w' => e = .returned (.bool true) ∧ Below w.heap.size w w' := by
  obtain ⟨client, tag, query, pointer⟩ := x
  show Calls Try.prog 17 #[.agg #[.int .i64 client, .string tag, .string query, .string pointer], .agg #[.int .i64 client, .string tag, .string query, .string pointer]] w _
  have HB0 := hide (((Below.refl w.heap.size w).alloc (Nat.le_refl _) (Obj.cells #[.int .i64 client, .string tag, .string query, .string pointer] 31)).alloc (by simp) (Obj.cells #[.int .i64 client, .string tag, .string query, .string pointer] 31))
  go_enter Try.func17, Try.ntmps17
  go_wp2_with fail
  go_ret
  exact ⟨rfl, HB0.out⟩
set_option maxHeartbeats 2000000 in
theorem eqCn_any (x : Cn) (w : World) : Calls Try.prog 16 #[cnV x, cnV x] w fun e w' => e = .returned (.bool true) ∧ Below w.heap.size w w' := by
  obtain ⟨busy, control, ⟨client, tag, query, pointer⟩, due⟩ := x
  show Calls Try.prog 16 #[.agg #[.bool busy, .string control, .int .i64 client, .string tag, .string query, .string pointer, .int .i64 due], .agg #[.bool busy, .string control, .int .i64 client, .string tag, .string query, .string pointer, .int .i64 due]] w _
  have HB0 := hide (((Below.refl w.heap.size w).alloc (Nat.le_refl _) (Obj.cells #[.bool busy, .string control, .int .i64 client, .string tag, .string query, .string pointer, .int .i64 due] 33)).alloc (by simp) (Obj.cells #[.bool busy, .string control, .int .i64 client, .string tag, .string query, .string pointer, .int .i64 due] 33))
  go_enter Try.func16, Try.ntmps16
  go_wp2_with fail
  refine (eqWn_any ⟨client, tag, query, pointer⟩ _).mono ?_
  rintro e w4 ⟨rfl, hb⟩
  obtain ⟨hc, hf⟩ := bcells hb
  have HB := hide hb
  clear hb
  go_wp2_with fail
  go_ret
  exact ⟨rfl, HB0.out.trans (HB.out.mono (by simp; omega))⟩
set_option maxHeartbeats 2000000 in
theorem eqWns_any (xs : List Wn) (v u : Value) (w : World) {lo lo2 : Nat} (hv : WnsAt lo w v xs) (hu : WnsAt lo2 w u xs) :
    Calls Try.prog 11 #[v, u] w fun e w' => e = .returned (.bool true) ∧ Below w.heap.size w w' := by
  obtain ⟨hl, hv⟩ := hv
  obtain ⟨_, hu⟩ := hu
  by_cases hx : xs = []
  · subst hx
    obtain ⟨a0, c0, rfl⟩ : ∃ a c, v = .slice a 0 c := by
      rcases hv with ⟨_, _, rfl, _⟩ | ⟨b, off, cap, rfl, _⟩
      · exact ⟨_, _, rfl⟩
      · exact ⟨_, _, rfl⟩
    obtain ⟨a1, c1, rfl⟩ : ∃ a c, u = .slice a 0 c := by
      rcases hu with ⟨_, _, rfl, _⟩ | ⟨b, off, cap, rfl, _⟩
      · exact ⟨_, _, rfl⟩
      · exact ⟨_, _, rfl⟩
    clear hv hu
    go_enter Try.func11, Try.ntmps11
    go_wp2
    go_loop [5] (fun i => i = .int .i64 0) (fun _ => 0)
    case atStart => rfl
    case round =>
      subst hrel
      go_wp2
      go_ret
      exact ⟨rfl, Below.refl _ _⟩
  · rcases hv with ⟨_, _, _, e⟩ | ⟨b, off, cap, rfl, ⟨_, hlt⟩, hc⟩
    · exact absurd e hx
    rcases hu with ⟨_, _, _, e⟩ | ⟨b2, off2, cap2, rfl, ⟨_, hlt2⟩, hc2⟩
    · exact absurd e hx
    clear hx
    go_enter Try.func11, Try.ntmps11
    go_wp2
    go_loopw [5] (fun i w1 => ∃ k : Nat, k ≤ xs.length ∧ i = .int .i64 k ∧ Below w.heap.size w w1) (fun i _ => xs.length - (intOf i).toNat)
    case atStart => exact ⟨0, Nat.zero_le _, rfl, Below.refl _ _⟩
    case round =>
      obtain ⟨k, hk, rfl, hb⟩ := hrel
      by_cases hk2 : k < xs.length
      · obtain ⟨x, hxk⟩ : ∃ x, xs[k] = x := ⟨_, rfl⟩
        obtain ⟨p, hp⟩ : ∃ p, off + k * 4 = p := ⟨_, rfl⟩
        obtain ⟨p2, hp2⟩ : ∃ p2, off2 + k * 4 = p2 := ⟨_, rfl⟩
        have g := (hc k hk2).1
        have g2 := (hc2 k hk2).1
        rw [hxk, hp] at g
        rw [hxk, hp2] at g2
        have KS : Hid (∀ X, Below w.heap.size w X → (X.cell? ⟨b, p, none⟩ = some (.int .i64 x.client) ∧ X.cell? ⟨b, p + 1, none⟩ = some (.string x.tag) ∧ X.cell? ⟨b, p + 2, none⟩ = some (.string x.query) ∧ X.cell? ⟨b, p + 3, none⟩ = some (.string x.pointer)) ∧ (X.cell? ⟨b2, p2, none⟩ = some (.int .i64 x.client) ∧ X.cell? ⟨b2, p2 + 1, none⟩ = some (.string x.tag) ∧ X.cell? ⟨b2, p2 + 2, none⟩ = some (.string x.query) ∧ X.cell? ⟨b2, p2 + 3, none⟩ = some (.string x.pointer)) ∧ Below w.heap.size w X) := fun X h =>
          ⟨⟨(h.cell (p := ⟨b, p, none⟩) hlt).trans (g 0 (by simp [wnC])), (h.cell (p := ⟨b, p + 1, none⟩) hlt).trans (g 1 (by simp [wnC])), (h.cell (p := ⟨b, p + 2, none⟩) hlt).trans (g 2 (by simp [wnC])), (h.cell (p := ⟨b, p + 3, none⟩) hlt).trans (g 3 (by simp [wnC]))⟩, ⟨(h.cell (p := ⟨b2, p2, none⟩) hlt2).trans (g2 0 (by simp [wnC])), (h.cell (p := ⟨b2, p2 + 1, none⟩) hlt2).trans (g2 1 (by simp [wnC])), (h.cell (p := ⟨b2, p2 + 2, none⟩) hlt2).trans (g2 2 (by simp [wnC])), (h.cell (p := ⟨b2, p2 + 3, none⟩) hlt2).trans (g2 3 (by simp [wnC]))⟩, h⟩
        have hi : (k : Int) < (xs.length : Int) := by omega
        have hi0 : (0 : Int) ≤ (k : Int) := by omega
        have HB := hide hb
        clear hc hc2 g g2 hxk hb
        go_wp2_with fail
        obtain ⟨D, hwd⟩ : ∃ D, wr.drew = D := ⟨_, rfl⟩
        have hbd0 : Below w.heap.size w wr.drew := bjoin (Below.refl _ _).drew HB.out
        have hD : Below w.heap.size w D := by rw [← hwd]; exact hbd0
        go_region_held3 (fun X => (X.cell? ⟨b, p, none⟩ = some (.int .i64 x.client) ∧ X.cell? ⟨b, p + 1, none⟩ = some (.string x.tag) ∧ X.cell? ⟨b, p + 2, none⟩ = some (.string x.query) ∧ X.cell? ⟨b, p + 3, none⟩ = some (.string x.pointer)) ∧ (X.cell? ⟨b2, p2, none⟩ = some (.int .i64 x.client) ∧ X.cell? ⟨b2, p2 + 1, none⟩ = some (.string x.tag) ∧ X.cell? ⟨b2, p2 + 2, none⟩ = some (.string x.query) ∧ X.cell? ⟨b2, p2 + 3, none⟩ = some (.string x.pointer)) ∧ Below w.heap.size w X)
          (first | with_reducible exact KS.out _ hbd0 | with_reducible exact KS.out _ hD | with_reducible exact KS.out _ hb9)
          (first | (go_at_call 17; refine (eqWn_any x _).mono ?_; rintro e w2 ⟨rfl, hb2⟩; have hb9 : Below w.heap.size w w2 := bjoin hb2 hD))
        go_wp2_with fail
        go_roundw
        case rel => exact ⟨k + 1, by omega, by go_num, hb9⟩
        case measure => simp [intOf]; omega
      · go_wp2
        go_ret
        exact ⟨rfl, hb⟩
set_option maxHeartbeats 2000000 in
theorem eqCns_any (xs : List Cn) (v u : Value) (w : World) {lo lo2 : Nat} (hv : CnsAt lo w v xs) (hu : CnsAt lo2 w u xs) :
    Calls Try.prog 10 #[v, u] w fun e w' => e = .returned (.bool true) ∧ Below w.heap.size w w' := by
  obtain ⟨hl, hv⟩ := hv
  obtain ⟨_, hu⟩ := hu
  by_cases hx : xs = []
  · subst hx
    obtain ⟨a0, c0, rfl⟩ : ∃ a c, v = .slice a 0 c := by
      rcases hv with ⟨_, _, rfl, _⟩ | ⟨b, off, cap, rfl, _⟩
      · exact ⟨_, _, rfl⟩
      · exact ⟨_, _, rfl⟩
    obtain ⟨a1, c1, rfl⟩ : ∃ a c, u = .slice a 0 c := by
      rcases hu with ⟨_, _, rfl, _⟩ | ⟨b, off, cap, rfl, _⟩
      · exact ⟨_, _, rfl⟩
      · exact ⟨_, _, rfl⟩
    clear hv hu
    go_enter Try.func10, Try.ntmps10
    go_wp2
    go_loop [5] (fun i => i = .int .i64 0) (fun _ => 0)
    case atStart => rfl
    case round =>
      subst hrel
      go_wp2
      go_ret
      exact ⟨rfl, Below.refl _ _⟩
  · rcases hv with ⟨_, _, _, e⟩ | ⟨b, off, cap, rfl, ⟨_, hlt⟩, hc⟩
    · exact absurd e hx
    rcases hu with ⟨_, _, _, e⟩ | ⟨b2, off2, cap2, rfl, ⟨_, hlt2⟩, hc2⟩
    · exact absurd e hx
    clear hx
    go_enter Try.func10, Try.ntmps10
    go_wp2
    go_loopw [5] (fun i w1 => ∃ k : Nat, k ≤ xs.length ∧ i = .int .i64 k ∧ Below w.heap.size w w1) (fun i _ => xs.length - (intOf i).toNat)
    case atStart => exact ⟨0, Nat.zero_le _, rfl, Below.refl _ _⟩
    case round =>
      obtain ⟨k, hk, rfl, hb⟩ := hrel
      by_cases hk2 : k < xs.length
      · obtain ⟨x, hxk⟩ : ∃ x, xs[k] = x := ⟨_, rfl⟩
        obtain ⟨p, hp⟩ : ∃ p, off + k * 7 = p := ⟨_, rfl⟩
        obtain ⟨p2, hp2⟩ : ∃ p2, off2 + k * 7 = p2 := ⟨_, rfl⟩
        have g := (hc k hk2).1
        have g2 := (hc2 k hk2).1
        rw [hxk, hp] at g
        rw [hxk, hp2] at g2
        have KS : Hid (∀ X, Below w.heap.size w X → (X.cell? ⟨b, p, none⟩ = some (.bool x.busy) ∧ X.cell? ⟨b, p + 1, none⟩ = some (.string x.control) ∧ X.cell? ⟨b, p + 2, none⟩ = some (.int .i64 x.want.client) ∧ X.cell? ⟨b, p + 3, none⟩ = some (.string x.want.tag) ∧ X.cell? ⟨b, p + 4, none⟩ = some (.string x.want.query) ∧ X.cell? ⟨b, p + 5, none⟩ = some (.string x.want.pointer) ∧ X.cell? ⟨b, p + 6, none⟩ = some (.int .i64 x.due)) ∧ (X.cell? ⟨b2, p2, none⟩ = some (.bool x.busy) ∧ X.cell? ⟨b2, p2 + 1, none⟩ = some (.string x.control) ∧ X.cell? ⟨b2, p2 + 2, none⟩ = some (.int .i64 x.want.client) ∧ X.cell? ⟨b2, p2 + 3, none⟩ = some (.string x.want.tag) ∧ X.cell? ⟨b2, p2 + 4, none⟩ = some (.string x.want.query) ∧ X.cell? ⟨b2, p2 + 5, none⟩ = some (.string x.want.pointer) ∧ X.cell? ⟨b2, p2 + 6, none⟩ = some (.int .i64 x.due)) ∧ Below w.heap.size w X) := fun X h =>
          ⟨⟨(h.cell (p := ⟨b, p, none⟩) hlt).trans (g 0 (by simp [cnC])), (h.cell (p := ⟨b, p + 1, none⟩) hlt).trans (g 1 (by simp [cnC])), (h.cell (p := ⟨b, p + 2, none⟩) hlt).trans (g 2 (by simp [cnC])), (h.cell (p := ⟨b, p + 3, none⟩) hlt).trans (g 3 (by simp [cnC])), (h.cell (p := ⟨b, p + 4, none⟩) hlt).trans (g 4 (by simp [cnC])), (h.cell (p := ⟨b, p + 5, none⟩) hlt).trans (g 5 (by simp [cnC])), (h.cell (p := ⟨b, p + 6, none⟩) hlt).trans (g 6 (by simp [cnC]))⟩, ⟨(h.cell (p := ⟨b2, p2, none⟩) hlt2).trans (g2 0 (by simp [cnC])), (h.cell (p := ⟨b2, p2 + 1, none⟩) hlt2).trans (g2 1 (by simp [cnC])), (h.cell (p := ⟨b2, p2 + 2, none⟩) hlt2).trans (g2 2 (by simp [cnC])), (h.cell (p := ⟨b2, p2 + 3, none⟩) hlt2).trans (g2 3 (by simp [cnC])), (h.cell (p := ⟨b2, p2 + 4, none⟩) hlt2).trans (g2 4 (by simp [cnC])), (h.cell (p := ⟨b2, p2 + 5, none⟩) hlt2).trans (g2 5 (by simp [cnC])), (h.cell (p := ⟨b2, p2 + 6, none⟩) hlt2).trans (g2 6 (by simp [cnC]))⟩, h⟩
        have hi : (k : Int) < (xs.length : Int) := by omega
        have hi0 : (0 : Int) ≤ (k : Int) := by omega
        have HB := hide hb
        clear hc hc2 g g2 hxk hb
        go_wp2_with fail
        obtain ⟨D, hwd⟩ : ∃ D, wr.drew = D := ⟨_, rfl⟩
        have hbd0 : Below w.heap.size w wr.drew := bjoin (Below.refl _ _).drew HB.out
        have hD : Below w.heap.size w D := by rw [← hwd]; exact hbd0
        go_region_held3 (fun X => (X.cell? ⟨b, p, none⟩ = some (.bool x.busy) ∧ X.cell? ⟨b, p + 1, none⟩ = some (.string x.control) ∧ X.cell? ⟨b, p + 2, none⟩ = some (.int .i64 x.want.client) ∧ X.cell? ⟨b, p + 3, none⟩ = some (.string x.want.tag) ∧ X.cell? ⟨b, p + 4, none⟩ = some (.string x.want.query) ∧ X.cell? ⟨b, p + 5, none⟩ = some (.string x.want.pointer) ∧ X.cell? ⟨b, p + 6, none⟩ = some (.int .i64 x.due)) ∧ (X.cell? ⟨b2, p2, none⟩ = some (.bool x.busy) ∧ X.cell? ⟨b2, p2 + 1, none⟩ = some (.string x.control) ∧ X.cell? ⟨b2, p2 + 2, none⟩ = some (.int .i64 x.want.client) ∧ X.cell? ⟨b2, p2 + 3, none⟩ = some (.string x.want.tag) ∧ X.cell? ⟨b2, p2 + 4, none⟩ = some (.string x.want.query) ∧ X.cell? ⟨b2, p2 + 5, none⟩ = some (.string x.want.pointer) ∧ X.cell? ⟨b2, p2 + 6, none⟩ = some (.int .i64 x.due)) ∧ Below w.heap.size w X)
          (first | with_reducible exact KS.out _ hbd0 | with_reducible exact KS.out _ hD | with_reducible exact KS.out _ hb9)
          (first | (go_at_call 16; refine (eqCn_any x _).mono ?_; rintro e w2 ⟨rfl, hb2⟩; have hb9 : Below w.heap.size w w2 := bjoin hb2 hD))
        go_wp2_with fail
        go_roundw
        case rel => exact ⟨k + 1, by omega, by go_num, hb9⟩
        case measure => simp [intOf]; omega
      · go_wp2
        go_ret
        exact ⟨rfl, hb⟩
set_option maxHeartbeats 1000000 in
theorem eqPl_any (x : Pl) (cv qv cv2 qv2 : Value) (w : World) {l1 l2 l3 l4 : Nat} (h1 : CnsAt l1 w cv x.conns) (h2 : WnsAt l2 w qv x.queue) (h3 : CnsAt l3 w cv2 x.conns) (h4 : WnsAt l4 w qv2 x.queue) :
    Calls Try.prog 6 #[plV x cv qv, plV x cv2 qv2] w fun e w' => e = .returned (.bool true) ∧ Below w.heap.size w w' := by
  obtain ⟨epoch, next, conns, queue⟩ := x
  simp only at h1 h2 h3 h4
  show Calls Try.prog 6 #[.agg #[.int .i64 epoch, .int .i64 next, cv, qv], .agg #[.int .i64 epoch, .int .i64 next, cv2, qv2]] w _
  have hb0 := ((Below.refl w.heap.size w).alloc (Nat.le_refl _) (Obj.cells #[.int .i64 epoch, .int .i64 next, cv, qv] 25)).alloc (by simp) (Obj.cells #[.int .i64 epoch, .int .i64 next, cv2, qv2] 25)
  have HE1 := hide (eqCns_any conns cv cv2 _ (At.kept kept_flat h1 hb0) (At.kept kept_flat h3 hb0))
  have HE2 := hide (fun W hW => eqWns_any queue qv qv2 W (At.kept kept_flat h2 (w' := W) hW) (At.kept kept_flat h4 (w' := W) hW))
  obtain ⟨a1, n1, rfl, _⟩ := h1.form
  obtain ⟨a2, n2, rfl, _⟩ := h2.form
  obtain ⟨a3, n3, rfl, _⟩ := h3.form
  obtain ⟨a4, n4, rfl, _⟩ := h4.form
  have HB0 := hide hb0
  clear h1 h2 h3 h4 hb0
  go_enter Try.func6, Try.ntmps6
  go_wp2_with fail
  refine HE1.out.mono ?_
  rintro e w4 ⟨rfl, hb⟩
  obtain ⟨hc, hf⟩ := bcells hb
  have HB := hide (HB0.out.trans (hb.mono (by simp; omega)))
  clear hb
  go_wp2_with fail
  refine (HE2.out _ HB.out).mono ?_
  rintro e w5 ⟨rfl, hb⟩
  have HB5 := hide (HB.out.trans (hb.mono HB.out.size))
  clear hb
  go_wp2_with fail
  go_ret
  exact ⟨rfl, HB5.out⟩

set_option maxHeartbeats 1000000 in
theorem markPl_any (x : Pl) (cv qv : Value) (nc nq : Nat) (f g : Nat → Value) (b1 b2 : List Nat) (k : Nat) (w : World) (hk : 1 ≤ k) (hn : k + nc * 7 + nq * 4 ≤ 4611686018427387904) (h1 : RowC w cv nc 7 f b1) (h2 : RowC w qv nq 4 g b2) (hd : ∀ d ∈ b1, d ∉ b2) :
    Calls Try.prog 7 #[plV x cv qv, .int .i64 (k : Int)] w fun e w' => e = .returned (.int .i64 ((k + nc * 7 + nq * 4 : Nat) : Int)) ∧ Only (b1 ++ b2) w w' ∧ RowC w' cv nc 7 (mvConn k) b1 ∧ RowC w' qv nq 4 (mvWant (k + nc * 7)) b2 := by
  obtain ⟨epoch, next, conns, queue⟩ := x
  show Calls Try.prog 7 #[.agg #[.int .i64 epoch, .int .i64 next, cv, qv], .int .i64 (k : Int)] w _
  have hb0 := (Below.refl w.heap.size w).alloc (Nat.le_refl _) (Obj.cells #[.int .i64 epoch, .int .i64 next, cv, qv] 25)
  have L1 := h1.lt
  have L2 := h2.lt
  have HE1 := hide (markConns_any nc cv f b1 k _ hk (by omega) (h1.below hb0))
  have HE2 := hide (fun W (hW : Only b1 (w.alloc (Obj.cells #[.int .i64 epoch, .int .i64 next, cv, qv] 25)) W) => markWants_any nq qv g b2 (k + nc * 7) W (by omega) (by omega) ((h2.below hb0).kept hW.size fun d hd2 => hW.block d (by have := L2 d hd2; simp; omega) fun h => hd d h hd2))
  obtain ⟨a1, n1, rfl⟩ := h1.form
  obtain ⟨a2, n2, rfl⟩ := h2.form
  have HB0 := hide hb0
  have HL1 := hide L1
  have HL2 := hide L2
  have HD := hide hd
  clear h1 h2 hb0 L1 L2 hd
  go_enter Try.func7, Try.ntmps7
  go_wp2_with fail
  refine HE1.out.mono ?_
  rintro e w4 ⟨rfl, hO, hR⟩
  have hz : w.heap.size ∉ b1 := fun h => by have := HL1.out _ h; omega
  have hbox := hO.block w.heap.size (by simp) hz
  have hc3 : w4.cell? ⟨w.heap.size, 3, none⟩ = some (.slice a2 nq n2) := by rw [cellSame hbox]; simp
  have HO := hide hO
  have HR := hide hR
  clear hO hR hbox hz
  go_wp2_with fail
  refine (HE2.out _ HO.out).mono ?_
  rintro e w5 ⟨rfl, hO2, hR2⟩
  have HO2 := hide hO2
  have HR2 := hide hR2
  clear hO2 hR2
  go_wp2_with fail
  go_ret
  refine ⟨ret_int (by omega), ?_, ?_, HR2.out⟩
  · exact (Only.of_below HB0.out).trans ((HO.out.mono fun b h => List.mem_append.2 (.inl h)).trans (HO2.out.mono fun b h => List.mem_append.2 (.inr h)))
  · exact HR.out.kept HO2.out.size fun d h => HO2.out.block d (HR.out.lt d h) (HD.out d h)

set_option maxHeartbeats 1000000 in
theorem heldPl_any (x : Pl) (cv qv : Value) (nc nq : Nat) (b1 b2 : List Nat) (k : Nat) (w : World) (hk : 1 ≤ k) (hn : k + nc * 7 + nq * 4 ≤ 4611686018427387904) (h1 : RowC w cv nc 7 (mvConn k) b1) (h2 : RowC w qv nq 4 (mvWant (k + nc * 7)) b2) :
    Calls Try.prog 8 #[plV x cv qv, .int .i64 (k : Int)] w fun e w' => e = .returned (.int .i64 ((k + nc * 7 + nq * 4 : Nat) : Int)) ∧ Below w.heap.size w w' := by
  obtain ⟨epoch, next, conns, queue⟩ := x
  show Calls Try.prog 8 #[.agg #[.int .i64 epoch, .int .i64 next, cv, qv], .int .i64 (k : Int)] w _
  have hb0 := (Below.refl w.heap.size w).alloc (Nat.le_refl _) (Obj.cells #[.int .i64 epoch, .int .i64 next, cv, qv] 25)
  have HE1 := hide (heldConns_any nc cv b1 k _ hk (by omega) (h1.below hb0))
  have HE2 := hide (fun W (hW : Below w.heap.size w W) => heldWants_any nq qv b2 (k + nc * 7) W (by omega) (by omega) (h2.below hW))
  obtain ⟨a1, n1, rfl⟩ := h1.form
  obtain ⟨a2, n2, rfl⟩ := h2.form
  have HB0 := hide hb0
  have hn1 : ¬ ((k + nc * 7 : Nat) : Int) < 0 := by omega
  have hn2 : ¬ ((k + nc * 7 + nq * 4 : Nat) : Int) < 0 := by omega
  clear h1 h2 hb0
  go_enter Try.func8, Try.ntmps8
  go_wp2_with fail
  refine HE1.out.mono ?_
  rintro e w4 ⟨rfl, hb⟩
  obtain ⟨hc, hf⟩ := bcells hb
  have HB := hide (HB0.out.trans (hb.mono (by simp)))
  clear hb
  go_wp2_with fail
  refine (HE2.out _ HB.out).mono ?_
  rintro e w5 ⟨rfl, hb⟩
  have HB5 := hide (HB.out.trans (hb.mono HB.out.size))
  clear hb
  go_wp2_with fail
  go_ret
  exact ⟨ret_int (by omega), HB5.out⟩
end Go.Proofs.Ytfeccdhadgpnkaa.Msg
