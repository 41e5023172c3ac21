import Derived.Test.YtjpdgcodjnnljaaRecChunk
namespace Go.Proofs.Ytjpdgcodjnnljaa.Msg
open Go.ChangeShapes Go.WideShapes Go.ChangeAt Go.RowKit Go.Shelf
set_option linter.unusedVariables false
set_option linter.unusedSimpArgs false
attribute [local go_sem] Oper.semAt_some

/-- the record that is built: its box, its row, the mark's box; what else lay when the loop began lies as it lay -/
structure RecV (w W0 : World) (g0 Br Bm : Nat) (mk : Int) (acc : List UInt8) (W : World) (v : Value) : Prop where
  box : Boxed W Br 22 v
  buf : Buf w.heap.size W v acc
  lies : v.ownBlock = some g0 ∨ ∃ g, W0.heap.size ≤ g ∧ v.ownBlock = some g
  mark : Boxed W Bm 5 (.int .u8 mk)
  old : ∀ k, k < W0.heap.size → k ≠ g0 → k ≠ Br → k ≠ Bm → W.heap[k]? = W0.heap[k]?
  size : W0.heap.size ≤ W.heap.size
  below : Below w.heap.size w W

structure RPlaces (w W0 : World) (g0 Br Bm : Nat) : Prop where
  a : w.heap.size ≤ g0
  b : g0 < Br
  c : Br < Bm
  d : Bm < W0.heap.size

theorem RecV.own_ne {w W0 : World} {g0 Br Bm : Nat} {mk : Int} {acc : List UInt8} {W : World} {v : Value} (h : RecV w W0 g0 Br Bm mk acc W v) (p : RPlaces w W0 g0 Br Bm) {k : Nat} (hk : k < W0.heap.size) (hg : k ≠ g0) : some k ≠ v.ownBlock := by
  rcases h.lies with e | ⟨g, hl, e⟩ <;> rw [e] <;> intro e' <;> injection e' with e' <;> omega
theorem RecV.own_base {w W0 : World} {g0 Br Bm : Nat} {mk : Int} {acc : List UInt8} {W : World} {v : Value} (h : RecV w W0 g0 Br Bm mk acc W v) (p : RPlaces w W0 g0 Br Bm) {k : Nat} (e : v.ownBlock = some k) : w.heap.size ≤ k := by
  rcases h.lies with e' | ⟨g, hl, e'⟩ <;> rw [e] at e' <;> injection e' with e' <;> have := p.a <;> have := p.b <;> have := p.c <;> have := p.d <;> omega
theorem RecV.alloc {w W0 : World} {g0 Br Bm : Nat} {mk : Int} {acc : List UInt8} {W : World} {v : Value} (h : RecV w W0 g0 Br Bm mk acc W v) (o : Obj) : RecV w W0 g0 Br Bm mk acc (W.alloc o) v :=
  ⟨h.box.alloc o, h.buf.alloc o, h.lies, h.mark.alloc o, fun k hk h1 h2 h3 => (Below.heap_alloc W o k (Nat.lt_of_lt_of_le hk h.size)).trans (h.old k hk h1 h2 h3), by rw [Deep.nblk_alloc]; have := h.size; omega, h.below.alloc h.below.size o⟩
/-- an append and the store back -/
theorem RecV.append {w W0 : World} {g0 Br Bm : Nat} {mk : Int} {acc acc' : List UInt8} {W w1 : World} {v v' : Value} (h : RecV w W0 g0 Br Bm mk acc W v) (p : RPlaces w W0 g0 Br Bm)
    (hb : Buf w.heap.size w1 v' acc') (hg : W.grownBy w1 v.ownBlock) (hat : v'.ownBlock = v.ownBlock ∨ v'.ownBlock = some W.heap.size) :
    Boxed w1 Br 22 v ∧ RecV w W0 g0 Br Bm mk acc' (w1.setCell ⟨Br, 0, none⟩ v') v' ∧ KeepsOthers W (w1.setCell ⟨Br, 0, none⟩ v') := by
  have hpa := p.a; have hpb := p.b; have hpc := p.c; have hpd := p.d
  have hbr := h.own_ne p (k := Br) (by omega) (by omega)
  have hbm := h.own_ne p (k := Bm) (by omega) (by omega)
  have hbox : Boxed w1 Br 22 v := h.box.kept hg hbr
  have hsz := h.size
  have hlies : v'.ownBlock = some g0 ∨ ∃ g, W0.heap.size ≤ g ∧ v'.ownBlock = some g := by
    rcases hat with e | e
    · rw [e]; exact h.lies
    · exact .inr ⟨_, hsz, e⟩
  have hne' : v'.ownBlock ≠ some Br := by rcases hlies with e | ⟨g, hl, e⟩ <;> rw [e] <;> intro e' <;> injection e' with e' <;> omega
  have hset : w1.grownBy (w1.setCell ⟨Br, 0, none⟩ v') (some Br) := grownBy_setCell' w1 Br v'
  refine ⟨hbox, ⟨hbox.set v', ?_, hlies, (h.mark.kept hg hbm).kept hset (by intro e; injection e with e; omega), ?_, ?_, ?_⟩, ?_⟩
  · exact World.ownsRow.kept hb hset (.inr hne')
  · intro k hk h1 h2 h3
    rw [hset.block k (by have := hg.size; omega) (by intro e; injection e with e; exact h2 e), hg.block k (by omega) (h.own_ne p hk h1)]
    exact h.old k hk h1 h2 h3
  · have := hg.size; have := hset.size; omega
  · have hgb : Below w.heap.size W w1 := ⟨hg.os, hg.tape, hg.output, hg.size, fun k hk => hg.block k (by have := h.below.size; omega) (by intro e; have := h.own_base p e.symm; omega)⟩
    exact (h.below.trans hgb).setCell (p := ⟨Br, 0, none⟩) (by dsimp only; omega) v'
  · refine (KeepsOthers.of_grownBy hg fun j o ej hj => ?_).trans (KeepsOthers.setCell _ _ _)
    have := h.buf
    obtain ⟨_, ⟨rfl, _⟩ | ⟨g, cap, cur, rfl, _, hgb, _⟩⟩ := this
    · simp [Value.ownBlock] at ej
    · obtain rfl : g = j := by simpa [Value.ownBlock] using ej
      rw [hgb] at hj; cases hj; rfl
/-- the mark -/
theorem RecV.marked {w W0 : World} {g0 Br Bm : Nat} {mk : Int} {acc : List UInt8} {W : World} {v : Value} (h : RecV w W0 g0 Br Bm mk acc W v) (p : RPlaces w W0 g0 Br Bm) (mk' : Int) :
    RecV w W0 g0 Br Bm mk' acc (W.setCell ⟨Bm, 0, none⟩ (.int .u8 mk')) v := by
  have hpa := p.a; have hpb := p.b; have hpc := p.c; have hpd := p.d
  have hset : W.grownBy (W.setCell ⟨Bm, 0, none⟩ (.int .u8 mk')) (some Bm) := grownBy_setCell' W Bm _
  refine ⟨h.box.kept hset (by intro e; injection e with e; omega), World.ownsRow.kept h.buf hset (.inr fun e => h.own_ne p (k := Bm) (by omega) (by omega) e.symm), h.lies, h.mark.set _, ?_, by have := hset.size; have := h.size; omega, h.below.setCell (p := ⟨Bm, 0, none⟩) (by dsimp only; omega) _⟩
  intro k hk h1 h2 h3
  rw [hset.block k (by have := h.size; omega) (by intro e; injection e with e; exact h3 e)]
  exact h.old k hk h1 h2 h3
theorem RecV.turned {w W0 : World} {g0 Br Bm : Nat} {mk : Int} {acc : List UInt8} {W W' : World} {v : Value} {row : Option Nat} (h : RecV w W0 g0 Br Bm mk acc W v) (p : RPlaces w W0 g0 Br Bm)
    (hg : W.grownBy W' row) (hr : ∀ r, row = some r → W0.heap.size ≤ r ∧ ∃ o : Obj, W.heap[r]? = some o ∧ o.isCells = false) : RecV w W0 g0 Br Bm mk acc W' v := by
  have hpa := p.a; have hpb := p.b; have hpc := p.c; have hpd := p.d
  have hlow : ∀ k, k < W0.heap.size → some k ≠ row := fun k hk e => by have := (hr k e.symm).1; omega
  refine ⟨h.box.kept hg (hlow _ (by omega)), World.ownsRow.kept h.buf hg ?_, h.lies, h.mark.kept hg (hlow _ (by omega)), ?_, by have := hg.size; have := h.size; omega, ?_⟩
  · obtain ⟨_, ⟨rfl, _⟩ | ⟨g, cap, cur, rfl, _, hgb, _⟩⟩ := h.buf
    · exact .inl rfl
    · refine .inr fun e => ?_
      obtain ⟨_, o, ho, hc⟩ := hr g (by simpa [Value.ownBlock] using e.symm)
      rw [hgb] at ho; cases ho; cases hc
  · intro k hk h1 h2 h3
    rw [hg.block k (by have := h.size; omega) (hlow k hk)]
    exact h.old k hk h1 h2 h3
  · exact h.below.trans ⟨hg.os, hg.tape, hg.output, hg.size, fun k hk => hg.block k (by have := h.below.size; omega) (hlow k (by omega))⟩

/-- an append of whatever, at the operation, in a fence -/
theorem wpListIn_apd {F : Fence} {n : Nat} {P : Program} {w : World} {ops : Array Oper} {rest : List Oper} {o : Oper} {a : Act} {Q : Exit → Act → World → Prop} (hgd : o.guard = none) (s x : Operand) (t u : TypeId)
    (ho : o.op = .call { callee := .builtin .append, args := #[s, x], argTypes := #[t, u] }) {vs vx v' : Value} {w' : World} (hs : a.eval s = vs) (hx : a.eval x = vx)
    (hr : (Builtin.append_ #[t, u] o.type #[vs, vx]).run P w = .ok v' w') (h : wpListIn F n P ops Q rest (a.put o.dst v') w') : wpListIn F n P ops Q (o :: rest) a w := by
  refine wpListIn_plain hgd fun K hK => ?_
  unfold Oper.wpIn
  refine ⟨by simp [Oper.about, ho, resolve, Target.leads, Sem.run_pure], ?_⟩
  rw [Oper.semAt_plain F _ _ (by rw [ho]; intro c hc'; cases hc')]
  simp [execOp, ho, resolve, invoke, builtin, hs, hx, hr, Result.andThen]
  exact hK _ _ h

/-- bytes that lie in a row, behind a slice of bytes -/
theorem Buf.run_bytes {w : World} {base : Nat} {v : Value} {bs cs : List UInt8} (ty : TypeId) (h : Buf base w v bs) (hbase : base ≤ w.heap.size) (b off c : Nat) (hc : ∀ j, j < cs.length → w.cell? ⟨b, off + j, none⟩ = some (.int .u8 ((cs.getD j 0).toNat : Int))) (hl : bs.length + cs.length ≤ 70368744177664) :
    ∃ v' w', (Builtin.append_ #[22, 22] ty #[v, .slice (some ⟨b, off, none⟩) cs.length c]).run Try.prog w = .ok v' w' ∧ Buf base w' v' (bs ++ cs) ∧ w.grownBy w' v.ownBlock ∧ (v'.ownBlock = v.ownBlock ∨ v'.ownBlock = some w.heap.size) := by
  obtain ⟨i0, hi, hz0, hz1, hz2⟩ := u8_facts
  obtain ⟨v', w', hr, h2, h3, _, h5⟩ := run_append_own_at (P := Try.prog) (w := w) base 22 ty 5 i0 (.int .u8 0) 1 1 Try.underlying22 hi hz0 hz1 hz2 rfl (by decide) v bs.length (u8s bs) h ⟨b, off, none⟩ cs.length c (u8s cs) (by simp [u8s])
    (fun j u hj => by
      have hjl : j < cs.length := by
        have := List.getElem?_eq_some_iff.1 hj
        obtain ⟨h, _⟩ := this
        simpa [u8s] using h
      rw [add_none', hc j hjl]
      rw [← hj]
      simp [u8s, hjl, List.getD_eq_getElem?_getD])
    (fun u hu => by
      simp only [u8s, List.mem_map] at hu
      obtain ⟨c, _, rfl⟩ := hu
      rfl)
    (by unfold maxLen; omega) (by omega) hbase
  refine ⟨v', w', hr, ?_, h3, h5⟩
  unfold Buf
  have e1 : (bs ++ cs).length = bs.length + cs.length := by simp
  have e2 : u8s (bs ++ cs) = u8s bs ++ u8s cs := by simp [u8s]
  rw [e1, e2]
  exact h2
theorem Buf.run_zeros {w : World} {base : Nat} {v : Value} {bs : List UInt8} (ty : TypeId) (h : Buf base w v bs) (hbase : base ≤ w.heap.size) (n : Nat) (hl : bs.length + n ≤ 70368744177664) :
    ∃ v' w', (Builtin.append_ #[22, 3] ty #[v, .int .i64 (n : Int)]).run Try.prog w = .ok v' w' ∧ Buf base w' v' (bs ++ List.replicate n 0) ∧ w.grownBy w' v.ownBlock ∧ (v'.ownBlock = v.ownBlock ∨ v'.ownBlock = some w.heap.size) := by
  obtain ⟨i0, hi, hz0, hz1, hz2⟩ := u8_facts
  obtain ⟨a, c, rfl, _, _⟩ := h.form
  obtain ⟨v', w', hr, h2, h3, h5⟩ := append_str (P := Try.prog) w base 22 9 ty 5 i0 Try.underlying22 Try.underlying9 hi hz0 hz1 hz2 _ bs.length (u8s bs) h (zeroB n) (by rw [zeroB_size]; unfold maxLen; omega) (by rw [zeroB_size]; omega) hbase
  rw [← append_zeros (P := Try.prog) w 22 3 9 ty 5 i0 Try.underlying22 Try.underlying3 Try.underlying9 hi hz0 hz1 hz2 a bs.length c n (by omega)] at hr
  have R := Buf.text (zeroB n) (Grew.refl w (.slice a bs.length c)) rfl h2 h3 h5
  rw [zeroB_data] at R
  exact ⟨v', w', hr, R.1, h3, h5⟩
end Go.Proofs.Ytjpdgcodjnnljaa.Msg
