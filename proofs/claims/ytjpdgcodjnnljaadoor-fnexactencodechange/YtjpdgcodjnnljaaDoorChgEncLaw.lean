import Derived.Test.YtjpdgcodjnnljaaDoorChgEncI
import Derived.Test.YtjpdgcodjnnljaaDoorChgEncS
import Derived.Test.YtjpdgcodjnnljaaDoorChgLaw
namespace Go.Proofs.YtjpdgcodjnnljaaDoor.Msg
open Go.ChangeShapes Go.WideShapes Go.ChangeAt Go.RowKit
set_option linter.unusedVariables false
set_option linter.unusedSimpArgs false

theorem form_strsAt {lo : Nat} {w : World} {v : Value} {xs : List ByteArray} (h : StrsAt lo w v xs) : ∃ a c, v = .slice a xs.length c := by
  obtain ⟨a, c, e, _⟩ := h.form
  exact ⟨a, c, e⟩
theorem rep_len (rows : List ByteArray) : rows.length ≤ repSz rows := by
  show rows.length ≤ rows.length + sumOf strSz rows
  omega

set_option maxRecDepth 100000 in
set_option maxHeartbeats 4000000 in
theorem lawEnc (c : Chg) (v : Value) (w : World) {lo : Nat} (g1 : c.tag.size ≤ 9223372036854775807) (g2 : c.query.size ≤ 9223372036854775807) (hv : StrsAt lo w v c.rows) (hT : TabW w) :
    Calls Tryd.prog 4 #[chgV c v] w fun e w' => e = .returned (.bool true) ∧ Below w.heap.size w w' := by
  have HSZ := hide (fun W hW => szChg_any c v W (lo := lo) g1 g2 (At.kept kept_str hv (w' := W) hW))
  obtain ⟨a, cap, hf, _⟩ := hv.form
  subst hf
  have HV := hide hv
  have HT := hide hT
  obtain ⟨X0, hX0⟩ : ∃ X0, w.alloc (Obj.cells #[.int .i64 c.kind, .int .i64 c.client, .string c.tag, .string c.query, .int .i64 c.page, .slice a c.rows.length cap, .int .i64 c.n] 32) = X0 := ⟨_, rfl⟩
  have b0 : Below w.heap.size w X0 := by rw [← hX0]; exact (Below.refl _ _).alloc (Nat.le_refl _) _
  have s0 : X0.heap.size = w.heap.size + 1 := by rw [← hX0]; simp
  have KEEP : Hid (∀ X, Below X0.heap.size X0 X → X.cell? ⟨w.heap.size, 0, none⟩ = some (.int .i64 c.kind) ∧ X.cell? ⟨w.heap.size, 1, none⟩ = some (.int .i64 c.client) ∧ X.cell? ⟨w.heap.size, 2, none⟩ = some (.string c.tag) ∧ X.cell? ⟨w.heap.size, 3, none⟩ = some (.string c.query) ∧ X.cell? ⟨w.heap.size, 4, none⟩ = some (.int .i64 c.page) ∧ X.cell? ⟨w.heap.size, 5, none⟩ = some (.slice a c.rows.length cap) ∧ X.cell? ⟨w.heap.size, 6, none⟩ = some (.int .i64 c.n)) := fun X h => by
    refine ⟨?_, ?_, ?_, ?_, ?_, ?_, ?_⟩ <;> exact (h.cell (by rw [s0]; simp)).trans (by rw [← hX0]; simp)
  have HB0 := hide b0
  have HX0 := hide hX0
  have HS0 := hide s0
  by_cases hsz : ((chgSz c : Nat) : Int) ≤ 1048576
  · have hrest : rest 1048576 (chgSz c) = 1048576 - (chgSz c : Int) := rest_yes hsz
    have hrl := rep_len c.rows
    have hss : chgSz c = c.tag.size + c.query.size + repSz c.rows := rfl
    have HTO := hide (fun W hW => toChg_any c (.slice a c.rows.length cap) W (lo := lo) (by omega) (At.kept kept_str HV.out (w' := W) hW))
    have HSP := hide (fun u W (lo : Nat) h => encS_any c u W (lo := lo) (by omega) (by omega) h)
    have HIM := hide (fun u W (lo : Nat) h hT => encI_any c u W (lo := lo) (by omega) (by omega) h hT)
    have HEQ := hide (fun u u' W (lo lo2 : Nat) h h' => eqChg_any c u u' W (lo := lo) (lo2 := lo2) h h')
    have hnn : ¬ (1048576 : Int) - (chgSz c : Int) < 0 := by omega
    have HNN := hide hnn
    rw [hrest] at HSZ
    obtain ⟨R, hR⟩ : ∃ R, encB c = R := ⟨_, rfl⟩
    rw [hR] at HSP HIM
    obtain ⟨sz, hszz⟩ : ∃ sz : Nat, chgSz c = sz := ⟨_, rfl⟩
    rw [hszz] at HSZ HNN
    clear hrest hrl hss hnn hR hszz hsz hv hT hX0 b0 s0 g1 g2
    obtain ⟨kind, client, tag, query, page, rows, n⟩ := c
    unfold chgV at HSZ HTO HSP HIM HEQ ⊢
    dsimp only at HSZ HTO HSP HIM HEQ KEEP HX0 HV ⊢
    go_enter Tryd.func4, Tryd.ntmps4
    go_wp2_with fail
    rw [HX0.out]
    refine (HSZ.out _ HB0.out).mono ?_
    rintro e W1 ⟨rfl, hb1⟩
    have hnn := HNN.out
    obtain ⟨q0, q1, q2, q3, q4, q5, q6⟩ := KEEP.out W1 hb1
    have HB1 := hide hb1
    clear hb1
    go_wp2_with fail
    refine (HTO.out _ (bjoin HB1.out HB0.out)).mono ?_
    rintro e W2 ⟨u1, rfl, hA1, hb2⟩
    obtain ⟨a1, cap1, rfl⟩ := form_strsAt hA1
    have HA1 := hide hA1
    have HB2 := hide hb2
    clear hA1 hb2
    go_wp2_with fail
    refine (HSP.out _ _ _ HA1.out).mono ?_
    rintro e W3 ⟨rfl, hb3⟩
    have HB03 := hide (bjoin hb3 (bjoin HB2.out HB1.out))
    clear q0 q1 q2 q3 q4 q5 q6 hb3
    obtain ⟨q0, q1, q2, q3, q4, q5, q6⟩ := KEEP.out W3 HB03.out
    go_wp2_with fail
    refine (HTO.out _ (bjoin HB03.out HB0.out)).mono ?_
    rintro e W4 ⟨u2, rfl, hA2, hb4⟩
    obtain ⟨a2, cap2, rfl⟩ := form_strsAt hA2
    obtain ⟨W5, hW5⟩ : ∃ W5, W4.alloc (Obj.cells #[.int .i64 kind, .int .i64 client, .string tag, .string query, .int .i64 page, .slice a2 rows.length cap2, .int .i64 n] 35) = W5 := ⟨_, rfl⟩
    have b45 : Below W4.heap.size W4 W5 := by rw [← hW5]; exact (Below.refl _ _).alloc (Nat.le_refl _) _
    have s5 : W5.heap.size = W4.heap.size + 1 := by rw [← hW5]; simp
    have b05 : Below X0.heap.size X0 W5 := bjoin b45 (bjoin hb4 HB03.out)
    have KEEP5 : Hid (∀ X, Below W5.heap.size W5 X → X.cell? ⟨W4.heap.size, 0, none⟩ = some (.int .i64 kind) ∧ X.cell? ⟨W4.heap.size, 1, none⟩ = some (.int .i64 client) ∧ X.cell? ⟨W4.heap.size, 2, none⟩ = some (.string tag) ∧ X.cell? ⟨W4.heap.size, 3, none⟩ = some (.string query) ∧ X.cell? ⟨W4.heap.size, 4, none⟩ = some (.int .i64 page) ∧ X.cell? ⟨W4.heap.size, 5, none⟩ = some (.slice a2 rows.length cap2) ∧ X.cell? ⟨W4.heap.size, 6, none⟩ = some (.int .i64 n)) := fun X h => by
      refine ⟨?_, ?_, ?_, ?_, ?_, ?_, ?_⟩ <;> exact (h.cell (by rw [s5]; simp)).trans (by rw [← hW5]; simp)
    have HA2 := hide (At.kept kept_str hA2 b45)
    have HB05 := hide b05
    have HW5 := hide hW5
    have s04 : X0.heap.size ≤ W4.heap.size := (bjoin hb4 HB03.out).size
    have HS04 := hide s04
    clear q0 q1 q2 q3 q4 q5 q6 hA2 hb4 b45 s5 b05 hW5 s04
    go_wp2_with fail
    rw [HW5.out]
    refine (HIM.out _ _ _ HA2.out (HT.out.kept (bjoin HB05.out HB0.out))).mono ?_
    rintro e W6 ⟨rfl, hb6⟩
    have HB6 := hide hb6
    have HB06 := hide (bjoin hb6 HB05.out)
    have HA6 := hide (At.kept kept_str HA2.out hb6)
    clear hb6
    go_wp2_with fail
    obtain ⟨D, hwd⟩ : ∃ D, W6.drew = D := ⟨_, rfl⟩
    have hbd0 : Below W6.heap.size W6 W6.drew := (Below.refl _ _).drew
    have hD6 : Below W6.heap.size W6 D := by rw [← hwd]; exact hbd0
    have KEEP6 : Hid (∀ X, Below W6.heap.size W6 X → (X.cell? ⟨w.heap.size, 0, none⟩ = some (.int .i64 kind) ∧ X.cell? ⟨w.heap.size, 1, none⟩ = some (.int .i64 client) ∧ X.cell? ⟨w.heap.size, 2, none⟩ = some (.string tag) ∧ X.cell? ⟨w.heap.size, 3, none⟩ = some (.string query) ∧ X.cell? ⟨w.heap.size, 4, none⟩ = some (.int .i64 page) ∧ X.cell? ⟨w.heap.size, 5, none⟩ = some (.slice a rows.length cap) ∧ X.cell? ⟨w.heap.size, 6, none⟩ = some (.int .i64 n)) ∧ (X.cell? ⟨W4.heap.size, 0, none⟩ = some (.int .i64 kind) ∧ X.cell? ⟨W4.heap.size, 1, none⟩ = some (.int .i64 client) ∧ X.cell? ⟨W4.heap.size, 2, none⟩ = some (.string tag) ∧ X.cell? ⟨W4.heap.size, 3, none⟩ = some (.string query) ∧ X.cell? ⟨W4.heap.size, 4, none⟩ = some (.int .i64 page) ∧ X.cell? ⟨W4.heap.size, 5, none⟩ = some (.slice a2 rows.length cap2) ∧ X.cell? ⟨W4.heap.size, 6, none⟩ = some (.int .i64 n)) ∧ Below W6.heap.size W6 X) := fun X h => ⟨KEEP.out X (bjoin h HB06.out), KEEP5.out X (bjoin h HB6.out), h⟩
    go_region_held3 (fun X => (X.cell? ⟨w.heap.size, 0, none⟩ = some (.int .i64 kind) ∧ X.cell? ⟨w.heap.size, 1, none⟩ = some (.int .i64 client) ∧ X.cell? ⟨w.heap.size, 2, none⟩ = some (.string tag) ∧ X.cell? ⟨w.heap.size, 3, none⟩ = some (.string query) ∧ X.cell? ⟨w.heap.size, 4, none⟩ = some (.int .i64 page) ∧ X.cell? ⟨w.heap.size, 5, none⟩ = some (.slice a rows.length cap) ∧ X.cell? ⟨w.heap.size, 6, none⟩ = some (.int .i64 n)) ∧ (X.cell? ⟨W4.heap.size, 0, none⟩ = some (.int .i64 kind) ∧ X.cell? ⟨W4.heap.size, 1, none⟩ = some (.int .i64 client) ∧ X.cell? ⟨W4.heap.size, 2, none⟩ = some (.string tag) ∧ X.cell? ⟨W4.heap.size, 3, none⟩ = some (.string query) ∧ X.cell? ⟨W4.heap.size, 4, none⟩ = some (.int .i64 page) ∧ X.cell? ⟨W4.heap.size, 5, none⟩ = some (.slice a2 rows.length cap2) ∧ X.cell? ⟨W4.heap.size, 6, none⟩ = some (.int .i64 n)) ∧ Below W6.heap.size W6 X)
      (first | with_reducible exact KEEP6.out _ hbd0 | with_reducible exact KEEP6.out _ hD6 | with_reducible exact KEEP6.out _ hB7 | with_reducible exact KEEP6.out _ hB8)
      (first
        | (go_at_call 14; have _g := hB7; refine (HEQ.out _ _ _ _ _ (At.kept kept_str HA6.out hB7) hA7).mono ?_; rintro e W8 ⟨rfl, hb8⟩; have hB8 : Below W6.heap.size W6 W8 := bjoin hb8 hB7)
        | (go_at_call 12; refine (HTO.out _ (bjoin (bjoin hD6 HB06.out) HB0.out)).mono ?_; rintro e W7 ⟨u3, rfl, hA7, hb7⟩; obtain ⟨a3, cap3, rfl⟩ := form_strsAt hA7; have hB7 : Below W6.heap.size W6 W7 := bjoin hb7 hD6))
    go_wp2_with fail
    go_ret
    exact ⟨rfl, bjoin (bjoin hB8 HB06.out) HB0.out⟩
  · have hrest : rest 1048576 (chgSz c) = -1 := rest_no (by omega)
    rw [hrest] at HSZ
    clear hrest hsz hv hT hX0 b0 s0 g1 g2
    obtain ⟨kind, client, tag, query, page, rows, n⟩ := c
    unfold chgV at HSZ ⊢
    dsimp only at HSZ KEEP HX0 HV ⊢
    go_enter Tryd.func4, Tryd.ntmps4
    go_wp2_with fail
    rw [HX0.out]
    refine (HSZ.out _ HB0.out).mono ?_
    rintro e W1 ⟨rfl, hb1⟩
    go_wp2_with fail
    go_ret
    exact ⟨rfl, bjoin hb1 HB0.out⟩
end Go.Proofs.YtjpdgcodjnnljaaDoor.Msg
