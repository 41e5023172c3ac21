import Derived.Test.YtjpdgcodjnnljaaLogImpl
namespace Go.Proofs.Ytjpdgcodjnnljaa.Msg
open Go.ChangeShapes Go.WideShapes Go.ChangeAt Go.RowKit Go.Shelf
set_option linter.unusedVariables false
set_option linter.unusedSimpArgs false
attribute [local go_sem] Oper.semAt_some

set_option maxRecDepth 100000 in
set_option maxHeartbeats 4000000 in
theorem readLogI_any (img : ByteArray) (w : World) (hI : img.size ≤ 1048576) :
    Calls Try.prog 14 #[.string img] w fun e w' => ∃ v, e = .returned (.tuple #[v, .int .i64 ((endOf (recsA img) : Nat) : Int)]) ∧ TBuf w.heap.size w' v (logTexts img) ∧ Below w.heap.size w w' := by
  refine (callsIn_wide (n := 6)).1 ?_
  obtain ⟨w1, hw1⟩ : ∃ w1, w.alloc (.cells #[.slice none 0 0] 24) = w1 := ⟨_, rfl⟩
  obtain ⟨w2, hw2⟩ : ∃ w2, w1.alloc (.cells #[.int .i64 0] 3) = w2 := ⟨_, rfl⟩
  have sz1 : w1.heap.size = w.heap.size + 1 := by rw [← hw1]; simp
  have sz2 : w2.heap.size = w1.heap.size + 1 := by rw [← hw2]; simp
  have bel1 : Below w.heap.size w w1 := by rw [← hw1]; exact (Below.refl _ _).alloc (Nat.le_refl _) _
  have bel2 : Below w1.heap.size w1 w2 := by rw [← hw2]; exact (Below.refl _ _).alloc (Nat.le_refl _) _
  have HBT : Hid (Boxed w2 w.heap.size 24 (.slice none 0 0)) := by rw [← hw2, ← hw1]; exact (Boxed.new w _ _).alloc _
  have HBE : Hid (Boxed w2 w1.heap.size 3 (.int .i64 0)) := by rw [← hw2]; exact Boxed.new w1 _ _
  have HBEL2 := hide (bj bel2 bel1)
  have HSZ1 := hide sz1
  have HSZ2 := hide sz2
  have HW2 := hide hw2
  clear sz1 sz2 bel1 bel2 hw2
  refine callsIn_of_wp_marks Try.func14 rfl trivial ?_ rfl
  simp only [Try.ntmps14, List.size_toArray, List.length_cons, List.length_nil, Nat.reduceAdd, Nat.reduceSub, Array.replicate_succ, Array.replicate_zero, List.push_toArray, List.append_toArray, List.nil_append, List.cons_append]
  gi_wp2_with fail
  rw [HW2.out]
  refine ⟨trivial, ?_⟩
  refine (records_in img _ _).mono ?_
  rintro e W5 ⟨rfl, hW5⟩
  have hBI : W5.heap[w2.heap.size]? = some (.cells #[.string img] 9 (0, 0)) := by rw [hW5]; exact Boxed.new w2 9 (.string img)
  have sz5 : W5.heap.size = w2.heap.size + 1 := by rw [hW5]; simp
  have bel5 : Below w2.heap.size w2 W5 := by rw [hW5]; exact (Below.refl _ _).alloc (Nat.le_refl _) _
  have PL : LPlaces w W5 w.heap.size w1.heap.size := ⟨Nat.le_refl _, by rw [HSZ1.out]; omega, by rw [sz5, HSZ2.out]; omega⟩
  have I0 : LogV w W5 w.heap.size w1.heap.size 0 [] W5 (.slice none 0 0) :=
    ⟨(bel5.block _ (by rw [HSZ2.out, HSZ1.out]; omega)).trans HBT.out, World.ownsRow_nil _ _ _ _, fun g e => by simp [Value.ownBlock] at e, (bel5.block _ (by rw [HSZ2.out]; omega)).trans HBE.out, fun _ _ _ _ => rfl, Nat.le_refl _, bj bel5 HBEL2.out⟩
  have HI0 := hide I0
  have HPL := hide PL
  have HBI := hide hBI
  have HSZ5 := hide sz5
  have HNE : Hid (w2.heap.size ≠ w.heap.size ∧ w2.heap.size ≠ w1.heap.size) := by
    have h1 := HSZ1.out; have h2 := HSZ2.out
    show _ ∧ _
    omega
  clear hW5 hBI sz5 bel5 PL I0
  gi_wp2_with fail
  refine wpIn_rangeFunc_ownF (α := ByteArray × Nat) rfl (by omega) (gf := 92) (lb := #[.pointer (some ⟨w2.heap.size, 0, none⟩)]) rfl trivial (enters_of Try.func92 (by kernel_rfl) rfl)
    (encs := fun x => #[.string x.1, .int .i64 ((x.2 : Nat) : Int)]) (Kp := fun X X' => X'.heap[w2.heap.size]? = X.heap[w2.heap.size]?) (S := fun ys => ys = recsA img) (Sp := fun pre => ∃ k, pre = recsK img k) (N := 1048577) (w0 := W5) ?seq ?kt ?kb (Below.refl _ _) (fun _ => rfl)
    (fun pre X => ∃ v, LogV w W5 w.heap.size w1.heap.size ((endOf pre : Nat) : Int) (pre.map (·.1)) X v)
    (fun _ _ _ => False) ?hI (fun _ _ _ _ _ hs _ _ => hs) ⟨_, HI0.out⟩
    (fun x => { tmps := #[Value.string img, undef, Value.slice none 0 0, Value.int IntKind.i64 0,
                         Value.pointer (some { block := w.heap.size, off := 0 }),
                         Value.pointer (some { block := w1.heap.size, off := 0 }), Value.string x.1, Value.int IntKind.i64 ((x.2 : Nat) : Int), Value.string img,
                         Value.func (Fn.func 92) #[] #[Value.pointer (some { block := w2.heap.size, off := 0 })], Value.string x.1,
                         Value.int IntKind.i64 ((x.2 : Nat) : Int), undef, undef, undef, undef, undef, undef, undef], defers := [] }) ?assign ?body ?done ?stop
  case seq =>
    intro l J Jx X hX hJ hJx hY h0
    exact records1_in 5 l w2.heap.size img (by omega) hI J Jx X hJ hY ((hX.block _ (by rw [HSZ5.out]; omega)).trans HBI.out) h0
  case kt =>
    intro A C D h1 h2
    exact h2.trans h1
  case kb =>
    intro X l o o' hl _ _ _
    exact World.putObj_heap_other (by rw [HSZ5.out] at hl; omega)
  case hI =>
    intro pre X X' row hx hg hr
    obtain ⟨v, hv⟩ := hx
    exact ⟨v, hv.turned HPL.out hg hr⟩
  case assign =>
    intro l x X K hK
    gi_wp2
    exact hK
  case body =>
    rintro l pre ⟨t, y⟩ X ⟨v, hv⟩ hlt
    have hv2 := hv.alloc (.cells #[.string t] 9)
    have ko1 := KeepsOthers.alloc X (.cells #[.string t] 9)
    have hnew : (X.alloc (.cells #[.string t] 9)).cell? ⟨X.heap.size, 0, none⟩ = some (.string t) := by simp
    obtain ⟨X2, hX2⟩ : ∃ X2, X.alloc (.cells #[.string t] 9) = X2 := ⟨_, rfl⟩
    rw [hX2] at hv2 ko1 hnew
    obtain ⟨v1, x1, hr1, hb1, hg1, ha1⟩ := hv2.buf.run_one 24 hv2.below.size X.heap.size 1 t hnew (by rw [List.length_map]; omega)
    obtain ⟨k1, hv3, ko2⟩ := hv2.append HPL.out hb1 hg1 ha1
    obtain ⟨g1, c1, hform1, _, _⟩ := hb1.form
    obtain ⟨L1, hL1⟩ : ∃ L1, (pre.map (·.1) ++ [t]).length = L1 := ⟨_, rfl⟩
    rw [hL1] at hform1
    subst hform1
    obtain ⟨X3, hX3⟩ : ∃ X3, x1.setCell ⟨w.heap.size, 0, none⟩ (.slice g1 L1 c1) = X3 := ⟨_, rfl⟩
    rw [hX3] at hv3 ko2
    have hv4 := hv3.ended HPL.out ((y : Nat) : Int)
    have ko3 := KeepsOthers.setCell X3 ⟨w1.heap.size, 0, none⟩ (.int .i64 ((y : Nat) : Int))
    obtain ⟨X4, hX4⟩ : ∃ X4, X3.setCell ⟨w1.heap.size, 0, none⟩ (.int .i64 ((y : Nat) : Int)) = X4 := ⟨_, rfl⟩
    rw [hX4] at hv4 ko3
    have HFIN : Hid (KeepsOthers X X4 ∧ X4.heap[w2.heap.size]? = X.heap[w2.heap.size]? ∧ ∃ v, LogV w W5 w.heap.size w1.heap.size ((endOf (pre ++ [(t, y)]) : Nat) : Int) ((pre ++ [(t, y)]).map (·.1)) X4 v) := by
      have hne := HNE.out
      have h5 := HSZ5.out
      refine ⟨(ko1.trans ko2).trans ko3, (hv4.old _ (by omega) hne.1 hne.2).trans (hv.old _ (by omega) hne.1 hne.2).symm, ⟨.slice g1 L1 c1, ?_⟩⟩
      rw [endOf_snoc, List.map_append]
      exact hv4
    have cb0 := hv.box.cell
    have cb1 := k1.cell
    have cf1 := k1.frozen
    have ce3 := hv3.endB.cell
    have cf3 := hv3.endB.frozen
    obtain ⟨aV, cV, hformV, _, _⟩ := hv.buf.form
    obtain ⟨L0, hL0⟩ : ∃ L0, (pre.map (·.1)).length = L0 := ⟨_, rfl⟩
    rw [hL0] at hformV
    subst hformV
    have HR1 := hide hr1
    clear hr1 hv hv2 hv3 hv4 ko1 ko2 ko3 hb1 hg1 ha1 k1 hnew hL0 hL1
    gi_wp2_with (first
      | (gi_at_builtin; refine wpListIn_apd rfl _ _ _ _ rfl rfl rfl HR1.out ?_)
      | fail)
    exact HFIN.out
  case done =>
    rintro D ys X hD rfl ⟨v, hv⟩ hK
    have ct := hv.box.cell
    have ce := hv.endB.cell
    obtain ⟨aV, cV, hformV, _, _⟩ := hv.buf.form
    obtain ⟨L0, hL0⟩ : ∃ L0, ((recsA img).map (·.1)).length = L0 := ⟨_, rfl⟩
    rw [hL0] at hformV
    subst hformV
    have HV := hide hv
    clear hv hL0
    gi_wp2_with fail
    gi_quiet (fail)
    gi_wp2_with fail
    have hK' : (X.drewN nq).heap[D]? = some (.deferred (some [])) := hK
    have hB' : Below w.heap.size w (X.drewN nq) := below_drewN HV.out.below nq
    have hS' : TBuf w.heap.size (X.drewN nq) (.slice aV L0 cV) (logTexts img) := HV.out.buf.keep (below_drewN (Below.refl _ X) nq)
    refine ⟨by simp, .inl ⟨_, _, rfl, run_takeDeferred hK', ?_⟩⟩
    refine ⟨_, results_tmp2 rfl _ _ _, _, rfl, ownsRow_putObj hS' _ hK' rfl, hB'.trans (belowK_b (w := w) (Nat.le_refl _) (X.drewN nq) D _ _ ?_ hK' rfl rfl)⟩
    have := HPL.out.a; have := HPL.out.b; have := HPL.out.c
    omega
  case stop =>
    rintro D c pre X _ _ h _
    exact h.elim
end Go.Proofs.Ytjpdgcodjnnljaa.Msg
