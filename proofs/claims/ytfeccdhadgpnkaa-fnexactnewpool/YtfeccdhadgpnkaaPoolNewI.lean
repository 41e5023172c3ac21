import Derived.Test.YtfeccdhadgpnkaaPoolNew
namespace Go.Proofs.Ytfeccdhadgpnkaa.Msg
open Go.ChangeShapes Go.WideShapes Go.ChangeAt Go.RowKit
set_option linter.unusedVariables false
set_option linter.unusedSimpArgs false

def cntB (e : Int) : Bool := decide (0 ≤ e ∧ e ≤ 1000000)
theorem isCount_any (e : Int) (w : World) : Calls Try.prog 9 #[.int .i64 e] w fun en w' => en = .returned (.bool (cntB e)) ∧ w' = w := by
  by_cases h1 : 0 ≤ e
  · by_cases h2 : e ≤ 1000000
    · have HE : Hid (cntB e = true) := decide_eq_true ⟨h1, h2⟩
      go_enter Try.func9, Try.ntmps9
      go_wp2_with fail
      go_ret
      exact ⟨ret_bool HE.out.symm, rfl⟩
    · have HE : Hid (cntB e = false) := decide_eq_false (by omega)
      go_enter Try.func9, Try.ntmps9
      go_wp2_with fail
      go_ret
      exact ⟨ret_bool HE.out.symm, rfl⟩
  · have HE : Hid (cntB e = false) := decide_eq_false (by omega)
    go_enter Try.func9, Try.ntmps9
    go_wp2_with fail
    go_ret
    exact ⟨ret_bool HE.out.symm, rfl⟩

theorem cn0_at : ∀ (m : Nat) (h : m < 7), (cnC cn0)[m]'h = (#[Value.bool false, .string ByteArray.empty, .int .i64 0, .string ByteArray.empty, .string ByteArray.empty, .string ByteArray.empty, .int .i64 0])[m]!
  | 0, _ => rfl
  | 1, _ => rfl
  | 2, _ => rfl
  | 3, _ => rfl
  | 4, _ => rfl
  | 5, _ => rfl
  | 6, _ => rfl
set_option maxRecDepth 100000 in
set_option maxHeartbeats 4000000 in
theorem newI_any (e c : Int) (w : World) : Calls Try.prog 5 #[.int .i64 e, .int .i64 c] w fun en w' => ∃ cv qv b1 b2, en = .returned (plV (newP e c) cv qv) ∧ PlO w.heap.size w' (newP e c) cv qv b1 b2 ∧ Below w.heap.size w w' := by
  by_cases hok : newOk e c
  · have hE : newP e c = ⟨e, 0, List.replicate c.toNat cn0, []⟩ := if_pos hok
    rw [hE]
    obtain ⟨h1, h2, h3, h4⟩ := hok
    obtain ⟨n, rfl⟩ : ∃ n : Nat, c = (n : Int) := ⟨c.toNat, by omega⟩
    have hn4 : n ≤ 4 := by omega
    have g3 : ¬ (n : Int) < 1 := by omega
    have g4 : ¬ (4 : Int) < (n : Int) := by omega
    rw [Int.toNat_natCast]
    have HCT : Hid (cntB e = true) := decide_eq_true ⟨h1, h2⟩
    have hmk := make_rows (P := Try.prog) 22 33 (.agg #[.bool false, .string ByteArray.empty, .int .i64 0, .string ByteArray.empty, .string ByteArray.empty, .string ByteArray.empty, .int .i64 0]) #[.bool false, .string ByteArray.empty, .int .i64 0, .string ByteArray.empty, .string ByteArray.empty, .string ByteArray.empty, .int .i64 0] 7 88 Try.underlying22 info_Conn rfl n (by omega) (by omega)
    clear hE
    go_enter Try.func5, Try.ntmps5
    go_wp2_with fail
    refine (isCount_any e _).mono ?_
    rintro en W ⟨rfl, rfl⟩
    rw [HCT.out]
    go_wp2_with fail
    refine bodyPost_ret (v := .agg #[.int .i64 e, .int .i64 0, .slice (some ⟨w.heap.size + 1, 0, none⟩) n n, .slice none 0 0]) (by simp [results, Try.results5, go_sem]) rfl ⟨.slice (some ⟨w.heap.size + 1, 0, none⟩) n n, .slice none 0 0, [w.heap.size + 1], [], rfl, ?_, ?_⟩
    · have hrow := made_row (w.alloc (Obj.cells #[.int .i64 0, .int .i64 0, .slice none 0 0, .slice none 0 0] 25)) #[.bool false, .string ByteArray.empty, .int .i64 0, .string ByteArray.empty, .string ByteArray.empty, .string ByteArray.empty, .int .i64 0] (n * 7) 33 (by decide)
      rw [Deep.nblk_alloc] at hrow
      refine ⟨⟨by simp; omega, .inr ⟨w.heap.size + 1, 0, n, by simp, ?_, rfl, fun i hi => ?_⟩⟩, ⟨by simp, .inl ⟨_, _, rfl, rfl, rfl⟩⟩, by simp, by simp, by simp, fun i hi => by simp only [List.getElem_replicate]; exact cn0Z, by simp⟩
      · simp
      · rw [List.length_replicate] at hi
        have hi7 : i / 7 < n := by omega
        have hget : (flat cnC (List.replicate n cn0)).getD i (.int .i64 0) = (#[Value.bool false, .string ByteArray.empty, .int .i64 0, .string ByteArray.empty, .string ByteArray.empty, .string ByteArray.empty, .int .i64 0])[i % 7]! := by
          have := flat_get cnC_len (List.replicate n cn0) (i / 7) (i % 7) (by rw [List.length_replicate]; exact hi7) (by omega)
          rw [show i / 7 * 7 + i % 7 = i by omega] at this
          rw [List.getD_eq_getElem?_getD, this]
          simp only [List.getElem_replicate, Option.getD_some]
          exact cn0_at _ (by omega)
        have hcell := hrow.cell hi
        have hfz := hrow.frozen i
        simp only [hget]
        refine ⟨?_, ?_⟩
        · simp only [Nat.zero_add]
          first | exact hcell | simpa using hcell
        · simp only [Nat.zero_add]
          first | exact hfz | simp
    · repeat refine Below.setCell ?_ (by simp) _
      exact ((Below.refl w.heap.size w).alloc (Nat.le_refl _) _).alloc (by simp) _
  · have hE : newP e c = ⟨0, 0, [], []⟩ := if_neg hok
    rw [hE]
    have hfin : ∀ W, Below w.heap.size w W → ∃ cv qv b1 b2, Ending.returned (.agg #[.int .i64 0, .int .i64 0, .slice none 0 0, .slice none 0 0]) = .returned (plV ⟨0, 0, [], []⟩ cv qv) ∧ PlO w.heap.size W ⟨0, 0, [], []⟩ cv qv b1 b2 ∧ Below w.heap.size w W := fun W h => ⟨_, _, [], [], rfl, PlO.none _ _ _ _ _ _ _ _, h⟩
    have HF := hide hfin
    clear hE hfin
    by_cases hc : cntB e = true
    · have hbad : c < 1 ∨ (¬ c < 1 ∧ 4 < c) := by
        have := of_decide_eq_true hc
        unfold newOk at hok
        omega
      have HCT := hide hc
      clear hok hc
      rcases hbad with h1 | ⟨h1, h2⟩
      all_goals
        go_enter Try.func5, Try.ntmps5
        go_wp2_with fail
        refine (isCount_any e _).mono ?_
        rintro en W ⟨rfl, rfl⟩
        rw [HCT.out]
        go_wp2_with fail
        refine bodyPost_ret (v := .agg #[.int .i64 0, .int .i64 0, .slice none 0 0, .slice none 0 0]) (by simp [results, Try.results5, go_sem]) rfl (HF.out _ ?_)
        repeat refine Below.setCell ?_ (by simp) _
        exact ((Below.refl w.heap.size w).alloc (Nat.le_refl _) _)
    · have HCT : Hid (cntB e = false) := Bool.eq_false_iff.2 hc
      clear hok hc
      go_enter Try.func5, Try.ntmps5
      go_wp2_with fail
      refine (isCount_any e _).mono ?_
      rintro en W ⟨rfl, rfl⟩
      rw [HCT.out]
      go_wp2_with fail
      refine bodyPost_ret (v := .agg #[.int .i64 0, .int .i64 0, .slice none 0 0, .slice none 0 0]) (by simp [results, Try.results5, go_sem]) rfl (HF.out _ ?_)
      repeat refine Below.setCell ?_ (by simp) _
      exact ((Below.refl w.heap.size w).alloc (Nat.le_refl _) _)
end Go.Proofs.Ytfeccdhadgpnkaa.Msg
