import Derived.Test.YtjpdgcodjnnljaaCrashFns
namespace Go.Proofs.Ytjpdgcodjnnljaa.Msg
open Go.ChangeShapes Go.WideShapes Go.ChangeAt Go.RowKit
set_option linter.unusedVariables false
set_option linter.unusedSimpArgs false

set_option maxRecDepth 100000 in
set_option maxHeartbeats 1000000 in
theorem prefix_any (S N : ByteArray) (w : World) (hN : N.size ≤ 1048576) (hS : S.size ≤ 1048576) :
    Calls Try.prog 118 #[.string N, .string S] w fun e w' => e = .returned (.bool (okD S N)) ∧ w' = w := by
  by_cases h1 : (S.size : Int) ≤ (N.size : Int)
  · have HX : Hid (okD S N = ((N.extract 0 S.size).toList == S.toList)) := by unfold okD; rw [decide_eq_true (by omega)]; exact Bool.true_and _
    have h2 : ¬ (N.size : Int) < (S.size : Int) := by omega
    go_enter Try.func118, Try.ntmps118
    go_wp2_with fail
    go_ret
    exact ⟨ret_bool (by rw [HX.out]), rfl⟩
  · have HX : Hid (okD S N = false) := by unfold okD; rw [decide_eq_false (by omega)]; exact Bool.false_and _
    go_enter Try.func118, Try.ntmps118
    go_wp2_with fail
    go_ret
    exact ⟨ret_bool (by rw [HX.out]), rfl⟩

set_option maxHeartbeats 1000000 in
theorem hasPrefix_any (S N : ByteArray) (w : World) (hN : N.size ≤ 1048576) (hS : S.size ≤ 1048576) :
    Calls Try.prog 94 #[.string N, .string S] w fun e w' => e = .returned (.bool (okD S N)) ∧ w' = w := by
  go_enter Try.func94, Try.ntmps94
  go_wp2_with (go_at_call 118; refine (prefix_any S N _ hN hS).mono ?_; rintro e w2 ⟨rfl, rfl⟩)
  go_ret
  exact ⟨rfl, rfl⟩

set_option maxRecDepth 100000 in
set_option maxHeartbeats 1000000 in
theorem isDisk_any (S N : ByteArray) (w : World) (hN : N.size ≤ 1048576) (hS : S.size ≤ 1048576) :
    Calls Try.prog 56 #[.agg #[.string S, .string N]] w fun e w' => e = .returned (.bool (okD S N)) ∧ Below w.heap.size w w' := by
  have HB := hide ((Below.refl w.heap.size w).alloc (Nat.le_refl _) (Obj.cells #[.string S, .string N] 32))
  have h1 : (N.size : Int) ≤ 4194304 := by omega
  cases hok : okD S N
  · go_enter Try.func56, Try.ntmps56
    go_wp2_with (go_at_call 94; refine (hasPrefix_any S N _ hN hS).mono ?_; rintro e w2 ⟨rfl, rfl⟩; rw [hok])
    go_ret
    exact ⟨rfl, HB.out⟩
  · go_enter Try.func56, Try.ntmps56
    go_wp2_with (go_at_call 94; refine (hasPrefix_any S N _ hN hS).mono ?_; rintro e w2 ⟨rfl, rfl⟩; rw [hok])
    go_ret
    exact ⟨rfl, HB.out⟩

set_option maxRecDepth 100000 in
set_option maxHeartbeats 1000000 in
theorem diskOk_any (S N : ByteArray) (w : World) (hN : N.size ≤ 1048576) (hS : S.size ≤ 1048576) :
    Calls Try.prog 89 #[.agg #[.string S, .string N]] w fun e w' => e = .returned (.bool (okD S N)) ∧ Below w.heap.size w w' := by
  obtain ⟨x1, hx1⟩ : ∃ x1, w.alloc (Obj.cells #[.string S, .string N] 32) = x1 := ⟨_, rfl⟩
  have HB : Hid (Below w.heap.size w x1) := by rw [← hx1]; exact (Below.refl w.heap.size w).alloc (Nat.le_refl _) _
  have HBD : Hid (∀ n, Below w.heap.size w (x1.drewN n)) := fun n => ⟨HB.out.os, HB.out.tape, HB.out.output, HB.out.size, HB.out.block⟩
  have c0 : x1.cell? ⟨w.heap.size, 0, none⟩ = some (.string S) := by rw [← hx1]; simp
  have c1 : x1.cell? ⟨w.heap.size, 1, none⟩ = some (.string N) := by rw [← hx1]; simp
  have h1 : (N.size : Int) ≤ 4194304 := by omega
  have hd1 : decide ((N.size : Int) ≤ 4194304) = true := decide_eq_true h1
  by_cases h2 : (S.size : Int) ≤ (N.size : Int)
  · have HX : Hid (okD S N = ((N.extract 0 S.size).toList == S.toList)) := by unfold okD; rw [decide_eq_true (by omega)]; exact Bool.true_and _
    have hd2 : decide ((S.size : Int) ≤ (N.size : Int)) = true := decide_eq_true h2
    have hd3 : decide (S.size ≤ N.size) = true := decide_eq_true (by omega)
    go_enter Try.func89, Try.ntmps89
    go_wp2_with fail
    go_quiet (fail)
    go_wp2_with fail
    go_ret
    exact ⟨ret_bool (by rw [HX.out]), HBD.out _⟩
  · have HX : Hid (okD S N = false) := by unfold okD; rw [decide_eq_false (by omega)]; exact Bool.false_and _
    have hd3 : decide (S.size ≤ N.size) = false := decide_eq_false (by omega)
    go_enter Try.func89, Try.ntmps89
    go_wp2_with fail
    go_quiet (fail)
    go_wp2_with fail
    go_ret
    exact ⟨ret_bool (by rw [HX.out]), HBD.out _⟩

set_option maxRecDepth 100000 in
set_option maxHeartbeats 1000000 in
theorem putAt_any (base : Nat) (T : List UInt8) (v : Value) (b : Nat) (s : ByteArray) (w : World) (hown : BufB base w v T) (hbase : base ≤ w.heap.size) (hb : T.length ≤ b) (hb6 : b ≤ 1048576) (hs : s.size ≤ 1048576) :
    Calls Try.prog 59 #[v, .int .i64 (b : Int), .string s] w fun e w' => ∃ u, e = .returned u ∧ BufB base w' u (putL T b s.data.toList) ∧ Below base w w' := by
  obtain ⟨i0, hi, hz0, hz1, hz2⟩ := u8_facts
  have hsl : s.data.toList.length = s.size := by simp
  by_cases h0 : s.size = 0
  · have HX : Hid (putL T b s.data.toList = T) := by unfold putL; rw [if_pos (by omega)]; trivial
    have he : s.toList = [] := by rw [ByteArray.toList_eq]; exact List.length_eq_zero_iff.1 (by rw [hsl]; exact h0)
    have he2 : s.toList.isEmpty = true := by rw [he]; rfl
    have HO := hide hown
    clear hown hsl
    go_enter Try.func59, Try.ntmps59
    go_wp2_with fail
    all_goals first
      | (rename_i h; exact absurd (h.symm.trans he2) (by decide))
      | (go_ret; exact ⟨_, rfl, by rw [HX.out]; exact HO.out, Below.refl _ _⟩)
  · have HX : Hid (putL T b s.data.toList = T ++ List.replicate (b - T.length) 0 ++ s.data.toList) := by unfold putL; rw [if_neg (by omega)]; trivial
    have he : ¬ s.toList = [] := by rw [ByteArray.toList_eq]; intro h; have := congrArg List.length h; rw [hsl] at this; exact h0 this
    have he2 : s.toList.isEmpty = false := by
      cases hh : s.toList with
      | nil => exact absurd hh he
      | cons a l => rfl
    obtain ⟨d, hd⟩ : ∃ d, b - T.length = d := ⟨_, rfl⟩
    have hdi : (b : Int) - (T.length : Int) = (d : Int) := by omega
    have hd6 : d ≤ 1048576 := by omega
    rw [hd] at HX
    obtain ⟨g, cap, hform⟩ : ∃ g cap, v = .slice (some ⟨g, 0, none⟩) T.length cap := by
      obtain ⟨g, cap, _, _, e, _⟩ := hown
      exact ⟨g, cap, e⟩
    subst hform
    clear hsl hd
    go_enter Try.func59, Try.ntmps59
    go_wp2_with (first
      | (at_builtin; refine wpList_zerosB _ rfl _ _ 22 3 9 rfl base i0 Try.underlying22 Try.underlying3 Try.underlying9 hi hz0 hz1 hz2 _ T rfl hown d rfl (by omega) hbase ?_)
      | fail)
    intro v1 w1 hown1 hb1
    obtain ⟨g1, cap1, hform1⟩ : ∃ g1 cap1, v1 = .slice (some ⟨g1, 0, none⟩) (T ++ List.replicate d 0).length cap1 := by
      obtain ⟨g, cap, _, _, e, _⟩ := hown1
      exact ⟨g, cap, e⟩
    subst hform1
    have hbase1 : base ≤ w1.heap.size := Nat.le_trans hbase hb1.size
    have hln : (T ++ List.replicate d 0).length ≤ 1048576 + 1048576 := by simp; omega
    have HB1 := hide hb1
    clear hown hb1
    go_wp2_with (first
      | (at_builtin; refine wpList_strB _ rfl _ _ 22 9 rfl base i0 Try.underlying22 Try.underlying9 hi hz0 hz1 hz2 _ (T ++ List.replicate d 0) rfl hown1 s rfl (by omega) hbase1 ?_)
      | fail)
    intro v2 w2 hown2 hb2
    have HO2 := hide hown2
    have HB2 := hide (HB1.out.trans hb2)
    clear hown1 hown2 hb2
    go_wp2_with fail
    go_ret
    exact ⟨_, rfl, by rw [HX.out]; first | exact HO2.out | (rw [List.append_assoc]; exact HO2.out), HB2.out⟩
end Go.Proofs.Ytjpdgcodjnnljaa.Msg
