import Derived.Test.YtjpdgcodjnnljaaLogAll
namespace Go.Proofs.Ytjpdgcodjnnljaa.Msg
open Go.ChangeShapes Go.WideShapes Go.ChangeAt Go.RowKit Go.Shelf
set_option linter.unusedVariables false
set_option linter.unusedSimpArgs false
attribute [local go_sem] Oper.semAt_some

theorem grown_of_below {W W' : World} (h : Below W.heap.size W W') : W.grownBy W' none := ⟨h.os, h.tape, h.output, h.size, fun k hk _ => h.block k hk⟩

set_option maxHeartbeats 1000000 in
theorem records_in (s : ByteArray) (n : Nat) (w : World) :
    CallsIn Fence.wide n Try.prog 55 #[.string s] w fun e w' =>
      e = .returned (.func (.func 92) #[] #[.pointer (some ⟨w.heap.size, 0, none⟩)]) ∧ w' = w.alloc (.cells #[.string s] 9) := by
  refine callsIn_of_wp Try.func55 rfl trivial ?_ rfl
  simp only [Try.ntmps55, List.size_toArray, List.length_cons, List.length_nil, Nat.reduceAdd, Nat.reduceSub, Array.replicate_succ, Array.replicate_zero, List.push_toArray, List.append_toArray, List.nil_append, List.cons_append]
  gi_wp2
  go_ret
  exact ⟨rfl, rfl⟩

set_option maxRecDepth 100000 in
set_option maxHeartbeats 2000000 in
theorem records1_in (n l Bi : Nat) (img : ByteArray) (hn : 1 ≤ n) (hI : img.size ≤ 1048576) (J Jx : List (ByteArray × Nat) → World → Prop) (W : World)
    (hJ : AbidesFrom W.heap.size J)
    (hY : ∀ pre x W1, J pre W1 → pre.length < 1048577 → YieldAt Fence.wide (n - 1) Try.prog l #[.string x.1, .int .i64 ((x.2 : Nat) : Int)] W1 fun e W' =>
      (e = .returned (.bool true) ∧ J (pre ++ [x]) W' ∧ W'.heap[Bi]? = W1.heap[Bi]?) ∨ (e = .returned (.bool false) ∧ Jx (pre ++ [x]) W'))
    (hBi : W.heap[Bi]? = some (.cells #[.string img] 9 (0, 0))) (h0 : J [] W) :
    CallsIn Fence.wide n Try.prog 92 #[.func (.yield l) #[] #[], .pointer (some ⟨Bi, 0, none⟩)] W fun e W' => (∃ v, e = .returned v) ∧
      ((∃ ys, ys = recsA img ∧ J ys W') ∨ (∃ pre, (∃ k, pre = recsK img k) ∧ Jx pre W')) := by
  have HY := hide hY
  have HJ := hide hJ
  have hnot : ¬ (4194304 : Int) < (img.size : Int) := by omega
  have c0 : W.cell? ⟨Bi, 0, none⟩ = some (.string img) := by simp [World.cell?, hBi]
  clear hY hJ
  refine callsIn_of_wp Try.func92 rfl trivial ?_ rfl
  simp only [Try.ntmps92, List.size_toArray, List.length_cons, List.length_nil, Nat.reduceAdd, Nat.reduceSub, Array.replicate_succ, Array.replicate_zero, List.push_toArray, List.append_toArray, List.nil_append, List.cons_append]
  gi_wp2
  gi_loopw [3] (fun i wr => ∃ k : Nat, (recsK img k).length = k ∧ i = .int .i64 ((endOf (recsK img k) : Nat) : Int) ∧ J (recsK img k) wr ∧ wr.heap[Bi]? = some (.cells #[.string img] 9 (0, 0)))
    (fun i _ => img.size + 1 - (intOf i).toNat)
  case atStart => exact ⟨0, rfl, rfl, h0, hBi⟩
  case round =>
    obtain ⟨k, hk, rfl, hJs, hs1⟩ := hrel
    have c1 : wr.cell? ⟨Bi, 0, none⟩ = some (.string img) := by simp [World.cell?, hs1]
    have hlens := recsK_len img k
    have hk6 : k ≤ img.size := by have := recsK_full hk; omega
    obtain ⟨a, haE⟩ : ∃ a, endOf (recsK img k) = a := ⟨_, rfl⟩
    have ha : a ≤ img.size := by rw [← haE]; exact hlens.2.2.1
    rw [haE]
    have hai : (a : Int) ≤ (img.size : Int) := by omega
    obtain ⟨X, hX⟩ : ∃ X, img.extract a img.size = X := ⟨_, rfl⟩
    have hXs : X.size ≤ 1048576 := by rw [← hX, ByteArray.size_extract]; omega
    have HFR := hide (fun W => firstRecord_any X W hXs)
    cases hf : firstB X with
    | none =>
      have HRV : Hid (firstV X = .tuple #[.string ⟨#[]⟩, .int .i64 0]) := by unfold firstV; rw [hf]; exact rfl
      have HA : Hid (recsA img = recsK img k) := recsA_of hk6 (by rw [haE, hX]; exact hf)
      clear hf hlens haE
      gi_wp2_with fail
      refine ⟨trivial, ?_⟩
      refine (callsIn_wide.2 (HFR.out _)).mono ?_
      rintro e W2 ⟨rfl, hb2⟩
      rw [HRV.out]
      have hJ2 : J (recsA img) W2 := by rw [HA.out]; exact HJ.out _ _ _ _ hJs (grown_of_below hb2) (fun _ e => by cases e)
      have HJ2 := hide hJ2
      clear hJ2 hb2
      gi_wp2_with fail
      refine ⟨fun _ h => (by cases h), ?_⟩
      gi_wp2_with fail
      refine bodyPost_ret (results_none rfl _ _ _) rfl ?_
      exact ⟨⟨_, rfl⟩, .inl ⟨_, rfl, HJ2.out⟩⟩
    | some p =>
      obtain ⟨t, m⟩ := p
      have hs := firstB_some hf
      rw [← hX, ByteArray.size_extract] at hs
      have HRV : Hid (firstV X = .tuple #[.string t, .int .i64 (m : Int)]) := by unfold firstV; rw [hf]; exact rfl
      obtain ⟨y, hy⟩ : ∃ y, a + m = y := ⟨_, rfl⟩
      have y1 : (a : Int) + (m : Int) = (y : Int) := by omega
      have hm0 : ¬ (m : Int) = 0 := by omega
      have hmb : ((m : Int) == 0) = false := by simpa using hm0
      have HNX : Hid (recsK img (k + 1) = recsK img k ++ [(t, y)]) := by
        have e := recsK_yes (img := img) (k := k) (t := t) (n := m) (by rw [haE, hX]; exact hf)
        rw [e, haE, hy]
        exact rfl
      have hya : a + 32 ≤ y ∧ y ≤ img.size := by omega
      have hklen : (recsK img k).length < 1048577 := by rw [hk]; omega
      have HE := hide haE
      clear hf hlens haE hs hy
      gi_wp2_with fail
      refine ⟨trivial, ?_⟩
      refine (callsIn_wide.2 (HFR.out _)).mono ?_
      rintro e W2 ⟨rfl, hb2⟩
      rw [HRV.out]
      have hJ2 : J (recsK img k) W2 := HJ.out _ _ _ _ hJs (grown_of_below hb2) (fun _ e => by cases e)
      have hs2 : W2.heap[Bi]? = some (.cells #[.string img] 9 (0, 0)) := (hb2.block Bi (by rw [Array.getElem?_eq_some_iff] at hs1; exact hs1.1)).trans hs1
      obtain ⟨fn, tmps, assign, body, hy, hR⟩ := HY.out (recsK img k) (t, y) W2 hJ2 hklen
      dsimp only at hy
      have HS2 := hide hs2
      clear hJ2 hb2 hs2
      gi_wp2_with fail
      refine hR.mono ?_
      rintro e W3 (⟨rfl, hJ3, hk3⟩ | ⟨rfl, hJx3⟩)
      · have hs3 : W3.heap[Bi]? = some (.cells #[.string img] 9 (0, 0)) := hk3.trans HS2.out
        have c3 : W3.cell? ⟨Bi, 0, none⟩ = some (.string img) := by simp [World.cell?, hs3]
        have HJ3 : Hid (J (recsK img (k + 1)) W3) := by rw [HNX.out]; exact hJ3
        have HL : Hid ((recsK img (k + 1)).length = k + 1 ∧ endOf (recsK img (k + 1)) = y) := by rw [HNX.out, endOf_snoc, List.length_append, hk]; exact ⟨rfl, rfl⟩
        have HS3 := hide hs3
        clear hJ3 hk3 hs3
        gi_wp2_with fail
        go_roundw
        case rel => exact ⟨k + 1, HL.out.1, by rw [HL.out.2], HJ3.out, HS3.out⟩
        case measure => simp [intOf]; omega
      · have HJX := hide hJx3
        clear hJx3
        gi_wp2_with fail
        refine bodyPost_ret (results_none rfl _ _ _) rfl ?_
        exact ⟨⟨_, rfl⟩, .inr ⟨_, ⟨k + 1, HNX.out.symm⟩, HJX.out⟩⟩

/-- the texts that are collected: their box, their row, the end's box; what else lay when the loop began lies as it lay -/
structure LogV (w W0 : World) (Bt Be : Nat) (e : Int) (xs : List ByteArray) (W : World) (v : Value) : Prop where
  box : Boxed W Bt 24 v
  buf : TBuf w.heap.size W v xs
  lies : ∀ g, v.ownBlock = some g → W0.heap.size ≤ g
  endB : Boxed W Be 3 (.int .i64 e)
  old : ∀ k, k < W0.heap.size → k ≠ Bt → k ≠ Be → W.heap[k]? = W0.heap[k]?
  size : W0.heap.size ≤ W.heap.size
  below : Below w.heap.size w W
structure LPlaces (w W0 : World) (Bt Be : Nat) : Prop where
  a : w.heap.size ≤ Bt
  b : Bt < Be
  c : Be < W0.heap.size
theorem LogV.own_ne {w W0 : World} {Bt Be : Nat} {e : Int} {xs : List ByteArray} {W : World} {v : Value} (h : LogV w W0 Bt Be e xs W v) {k : Nat} (hk : k < W0.heap.size) : some k ≠ v.ownBlock := fun e' => by
  have := h.lies k e'.symm
  omega
theorem LogV.alloc {w W0 : World} {Bt Be : Nat} {e : Int} {xs : List ByteArray} {W : World} {v : Value} (h : LogV w W0 Bt Be e xs W v) (o : Obj) : LogV w W0 Bt Be e xs (W.alloc o) v :=
  ⟨h.box.alloc o, World.ownsRow.alloc h.buf o, h.lies, h.endB.alloc o, fun k hk h1 h2 => (Below.heap_alloc W o k (Nat.lt_of_lt_of_le hk h.size)).trans (h.old k hk h1 h2), by rw [Deep.nblk_alloc]; have := h.size; omega, h.below.alloc h.below.size o⟩
theorem LogV.append {w W0 : World} {Bt Be : Nat} {e : Int} {xs xs' : List ByteArray} {W w1 : World} {v v' : Value} (h : LogV w W0 Bt Be e xs W v) (p : LPlaces w W0 Bt Be)
    (hb : TBuf w.heap.size w1 v' xs') (hg : W.grownBy w1 v.ownBlock) (hat : v'.ownBlock = v.ownBlock ∨ v'.ownBlock = some W.heap.size) :
    Boxed w1 Bt 24 v ∧ LogV w W0 Bt Be e xs' (w1.setCell ⟨Bt, 0, none⟩ v') v' ∧ KeepsOthers W (w1.setCell ⟨Bt, 0, none⟩ v') := by
  have hpa := p.a; have hpb := p.b; have hpc := p.c
  have hbox : Boxed w1 Bt 24 v := h.box.kept hg (h.own_ne (by omega))
  have hsz := h.size
  have hlies : ∀ g, v'.ownBlock = some g → W0.heap.size ≤ g := fun g e => by
    rcases hat with e' | e'
    · exact h.lies g (e'.symm.trans e)
    · rw [e'] at e; injection e with e; omega
  have hne' : v'.ownBlock ≠ some Bt := fun e => by have := hlies Bt e; omega
  have hset : w1.grownBy (w1.setCell ⟨Bt, 0, none⟩ v') (some Bt) := grownBy_setCell' w1 Bt v'
  refine ⟨hbox, ⟨hbox.set v', World.ownsRow.kept hb hset (.inr hne'), hlies, (h.endB.kept hg (h.own_ne (by omega))).kept hset (by intro e; injection e with e; omega), ?_, ?_, ?_⟩, ?_⟩
  · intro k hk h1 h2
    rw [hset.block k (by have := hg.size; omega) (by intro e; injection e with e; exact h1 e), hg.block k (by omega) (h.own_ne hk)]
    exact h.old k hk h1 h2
  · have := hg.size; have := hset.size; omega
  · have hgb : Below w.heap.size W w1 := ⟨hg.os, hg.tape, hg.output, hg.size, fun k hk => hg.block k (by have := h.below.size; omega) (h.own_ne (by omega))⟩
    exact (h.below.trans hgb).setCell (p := ⟨Bt, 0, none⟩) (by dsimp only; omega) v'
  · refine (KeepsOthers.of_grownBy hg fun j o ej hj => ?_).trans (KeepsOthers.setCell _ _ _)
    obtain ⟨_, ⟨rfl, _⟩ | ⟨g, cap, cur, rfl, _, hgb, _⟩⟩ := h.buf
    · simp [Value.ownBlock] at ej
    · obtain rfl : g = j := by simpa [Value.ownBlock] using ej
      rw [hgb] at hj; cases hj; rfl
theorem LogV.ended {w W0 : World} {Bt Be : Nat} {e : Int} {xs : List ByteArray} {W : World} {v : Value} (h : LogV w W0 Bt Be e xs W v) (p : LPlaces w W0 Bt Be) (e' : Int) :
    LogV w W0 Bt Be e' xs (W.setCell ⟨Be, 0, none⟩ (.int .i64 e')) v := by
  have hpa := p.a; have hpb := p.b; have hpc := p.c
  have hset : W.grownBy (W.setCell ⟨Be, 0, none⟩ (.int .i64 e')) (some Be) := grownBy_setCell' W Be _
  refine ⟨h.box.kept hset (by intro e; injection e with e; omega), World.ownsRow.kept h.buf hset (.inr fun e => h.own_ne (k := Be) (by omega) e.symm), h.lies, h.endB.set _, ?_, by have := hset.size; have := h.size; omega, h.below.setCell (p := ⟨Be, 0, none⟩) (by dsimp only; omega) _⟩
  intro k hk h1 h2
  rw [hset.block k (by have := h.size; omega) (by intro e; injection e with e; exact h2 e)]
  exact h.old k hk h1 h2
theorem LogV.turned {w W0 : World} {Bt Be : Nat} {e : Int} {xs : List ByteArray} {W W' : World} {v : Value} {row : Option Nat} (h : LogV w W0 Bt Be e xs W v) (p : LPlaces w W0 Bt Be)
    (hg : W.grownBy W' row) (hr : ∀ r, row = some r → W0.heap.size ≤ r ∧ ∃ o : Obj, W.heap[r]? = some o ∧ o.isCells = false) : LogV w W0 Bt Be e xs W' v := by
  have hpa := p.a; have hpb := p.b; have hpc := p.c
  have hlow : ∀ k, k < W0.heap.size → some k ≠ row := fun k hk e => by have := (hr k e.symm).1; omega
  refine ⟨h.box.kept hg (hlow _ (by omega)), World.ownsRow.kept h.buf hg ?_, h.lies, h.endB.kept hg (hlow _ (by omega)), ?_, by have := hg.size; have := h.size; omega, ?_⟩
  · obtain ⟨_, ⟨rfl, _⟩ | ⟨g, cap, cur, rfl, _, hgb, _⟩⟩ := h.buf
    · exact .inl rfl
    · refine .inr fun e => ?_
      obtain ⟨_, o, ho, hc⟩ := hr g (by simpa [Value.ownBlock] using e.symm)
      rw [hgb] at ho; cases ho; cases hc
  · intro k hk h1 h2
    rw [hg.block k (by have := h.size; omega) (hlow k hk)]
    exact h.old k hk h1 h2
  · exact h.below.trans ⟨hg.os, hg.tape, hg.output, hg.size, fun k hk => hg.block k (by have := h.below.size; omega) (hlow k (by omega))⟩
theorem TBuf.run_one {w : World} {base : Nat} {v : Value} {xs : List ByteArray} (ty : TypeId) (h : TBuf base w v xs) (hbase : base ≤ w.heap.size) (b c : Nat) (x : ByteArray) (hc : w.cell? ⟨b, 0, none⟩ = some (.string x)) (hl : xs.length ≤ 1048576) :
    ∃ v' w', (Builtin.append_ #[24, 24] ty #[v, .slice (some ⟨b, 0, none⟩) 1 c]).run Try.prog w = .ok v' w' ∧ TBuf base w' v' (xs ++ [x]) ∧ w.grownBy w' v.ownBlock ∧ (v'.ownBlock = v.ownBlock ∨ v'.ownBlock = some w.heap.size) := by
  obtain ⟨i0, hi, hz0, hz1, hz2⟩ := info_parts info_string
  obtain ⟨v', w', hr, h2, h3, _, h5⟩ := run_append_own_at (P := Try.prog) (w := w) base 24 ty 9 i0 (.string ByteArray.empty) 1 16 Try.underlying24 hi hz0 hz1 hz2 rfl (by decide) v xs.length (xs.map Value.string) h ⟨b, 0, none⟩ 1 c [.string x] rfl
    (fun j u hj => by
      cases j with
      | zero => simp at hj; subst hj; simpa [Addr.add] using hc
      | succ j => simp at hj)
    (fun u hu => by simp at hu; subst hu; rfl)
    (by unfold maxLen; omega) (by omega) hbase
  exact ⟨v', w', hr, by unfold TBuf; simpa using h2, h3, h5⟩
end Go.Proofs.Ytjpdgcodjnnljaa.Msg
