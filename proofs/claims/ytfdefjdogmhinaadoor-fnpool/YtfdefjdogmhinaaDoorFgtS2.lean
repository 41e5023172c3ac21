import Derived.Test.YtfdefjdogmhinaaDoorPlKitwithFgtS1
namespace Go.Proofs.YtfdefjdogmhinaaDoor.Msg
open Go.ChangeShapes Go.WideShapes Go.ChangeAt Go.RowKit
set_option linter.unusedVariables false
set_option linter.unusedSimpArgs false

theorem inC_one' (n : Int) : ∀ u ∈ inC n, u.oneCell' = true := by intro u hu; simp [inC] at hu; subst hu; rfl
theorem info_intS : (Tryd.prog.info? 3).map (fun i => (i.zero, i.size, i.bytes)) = some (some (.int .i64 0), 1, 8) := by kernel_rfl
theorem fgQ_take_skip {cl : Int} {tg : ByteArray} {qs : List Wn} {k : Nat} (hk : k < qs.length) (hb : thB cl tg qs[k] = true) : fgQ cl tg (qs.take (k + 1)) = fgQ cl tg (qs.take k) := by
  have : qs.take (k + 1) = qs.take k ++ [qs[k]] := by rw [List.take_add_one, List.getElem?_eq_getElem hk]; rfl
  unfold fgQ
  rw [this, List.filter_append]
  simp [hb]
theorem fgQ_take_hit {cl : Int} {tg : ByteArray} {qs : List Wn} {k : Nat} (hk : k < qs.length) (hb : thB cl tg qs[k] = false) : fgQ cl tg (qs.take (k + 1)) = fgQ cl tg (qs.take k) ++ [qs[k]] := by
  have : qs.take (k + 1) = qs.take k ++ [qs[k]] := by rw [List.take_add_one, List.getElem?_eq_getElem hk]; rfl
  unfold fgQ
  rw [this, List.filter_append]
  simp [hb]

/-- the pool that is being built, and the numbers of the freed lines -/
structure FS (w1 : World) (B2 O : Nat) (e nx : Int) (cs : List Cn) (qs : List Wn) (ns : List Int) (cv qv v : Value) (wx : World) : Prop where
  box : Box wx O 27 #[.int .i64 e, .int .i64 nx, cv, qv]
  cns : FB cnC 7 37 B2 wx cv cs
  wns : FB wnC 4 33 B2 wx qv qs
  ins : FB inC 1 3 B2 wx v ns
  bel : Below B2 w1 wx
  sz : B2 ≤ wx.heap.size
  lo : B2 ≤ O
theorem FS.below {w1 wx wy : World} {B2 O : Nat} {e nx : Int} {cs : List Cn} {qs : List Wn} {ns : List Int} {cv qv v : Value} (h : FS w1 B2 O e nx cs qs ns cv qv v wx) (hb : Below wx.heap.size wx wy) : FS w1 B2 O e nx cs qs ns cv qv v wy :=
  ⟨h.box.below hb, h.cns.below hb, h.wns.below hb, h.ins.below hb, h.bel.trans (hb.mono h.sz), by have := hb.size; have := h.sz; omega, h.lo⟩
theorem FS.addQ {w1 wx : World} {B2 O : Nat} {e nx : Int} {cs : List Cn} {qs : List Wn} {ns : List Int} {cv qv v : Value} (h : FS w1 B2 O e nx cs qs ns cv qv v wx) (q : Wn) (hl : qs.length ≤ 1000) :
    ∃ v' W, (Builtin.append_ #[25, 25] 25 #[qv, .slice (some ⟨wx.heap.size, 0, none⟩) 1 1]).run Tryd.prog (wx.alloc (.cells #[.int .i64 q.client, .string q.tag, .string q.query, .string q.pointer] 33)) = .ok v' W ∧ Below B2 w1 W ∧ W.cell? ⟨O, 3, none⟩ = some qv ∧ W.frozen? ⟨O, 3, none⟩ = false ∧ FS w1 B2 O e nx cs (qs ++ [q]) ns cv v' v (W.setCell ⟨O, 3, none⟩ v') := by
  obtain ⟨v', W, hr, hF, ho, _⟩ := app1 Tryd.underlying25 info_Want rfl (by decide) wnC_len wnC_one h.wns 25 q h.sz (by omega) (by omega)
  have hb : Box W O 27 _ := h.box.keepT (TSame.own h.wns ho (by decide))
  have o2 : Only [O] W (W.setCell ⟨O, 3, none⟩ v') := (Only.refl _ _).setCell (by simp) _
  have hB : Below B2 w1 W := h.bel.trans (ho.below h.sz fun d hd => (h.wns.own d hd).1)
  exact ⟨v', W, hr, hB, hb.cell 3 (by simp), hb.frozen 3, hb.set 3 _, (h.cns.keepT (TSame.own h.wns ho (by decide))).keepT (TSame.only o2 hb (by decide)), hF.keepT (TSame.only o2 hb (by decide)), (h.ins.keepT (TSame.own h.wns ho (by decide))).keepT (TSame.only o2 hb (by decide)), hB.setCell h.lo _, by rw [Deep.nblk_setCell]; have := ho.size; have := h.sz; omega, h.lo⟩
theorem FS.addC {w1 wx : World} {B2 O : Nat} {e nx : Int} {cs : List Cn} {qs : List Wn} {ns : List Int} {cv qv v : Value} (h : FS w1 B2 O e nx cs qs ns cv qv v wx) (c : Cn) (hl : cs.length ≤ 1000) :
    ∃ v' W, (Builtin.append_ #[24, 24] 24 #[cv, .slice (some ⟨wx.heap.size, 0, none⟩) 1 1]).run Tryd.prog (wx.alloc (.cells #[.bool c.busy, .string c.control, .int .i64 c.want.client, .string c.want.tag, .string c.want.query, .string c.want.pointer, .int .i64 c.due] 37)) = .ok v' W ∧ W.cell? ⟨O, 2, none⟩ = some cv ∧ W.frozen? ⟨O, 2, none⟩ = false ∧ FS w1 B2 O e nx (cs ++ [c]) qs ns v' qv v (W.setCell ⟨O, 2, none⟩ v') := by
  obtain ⟨v', W, hr, hF, ho, _⟩ := app1 Tryd.underlying24 info_Conn rfl (by decide) cnC_len cnC_one h.cns 24 c h.sz (by omega) (by omega)
  have hb : Box W O 27 _ := h.box.keepT (TSame.own h.cns ho (by decide))
  have o2 : Only [O] W (W.setCell ⟨O, 2, none⟩ v') := (Only.refl _ _).setCell (by simp) _
  have hB : Below B2 w1 W := h.bel.trans (ho.below h.sz fun d hd => (h.cns.own d hd).1)
  exact ⟨v', W, hr, hb.cell 2 (by simp), hb.frozen 2, hb.set 2 _, hF.keepT (TSame.only o2 hb (by decide)), (h.wns.keepT (TSame.own h.cns ho (by decide))).keepT (TSame.only o2 hb (by decide)), (h.ins.keepT (TSame.own h.cns ho (by decide))).keepT (TSame.only o2 hb (by decide)), hB.setCell h.lo _, by rw [Deep.nblk_setCell]; have := ho.size; have := h.sz; omega, h.lo⟩
theorem FS.addN {w1 wx : World} {B2 O : Nat} {e nx : Int} {cs : List Cn} {qs : List Wn} {ns : List Int} {cv qv v : Value} (h : FS w1 B2 O e nx cs qs ns cv qv v wx) (n : Int) (hl : ns.length ≤ 1000) :
    ∃ v' W, (Builtin.append_ #[43, 43] 43 #[v, .slice (some ⟨wx.heap.size, 0, none⟩) 1 1]).run Tryd.prog (wx.alloc (.cells #[.int .i64 n] 3)) = .ok v' W ∧ Only v.ownBlock.toList wx W ∧ FS w1 B2 O e nx cs qs (ns ++ [n]) cv qv v' W := by
  obtain ⟨v', W, hr, hF, ho, _⟩ := app1 Tryd.underlying43 info_intS rfl (by decide) inC_len inC_one' h.ins 43 n h.sz (by omega) (by omega)
  exact ⟨v', W, hr, ho, h.box.keepT (TSame.own h.ins ho (by decide)), h.cns.keepT (TSame.own h.ins ho (by decide)), h.wns.keepT (TSame.own h.ins ho (by decide)), hF, h.bel.trans (ho.below h.sz fun d hd => (h.ins.own d hd).1), by have := ho.size; have := h.sz; omega, h.lo⟩
theorem FS.conn {w1 wx wy : World} {B2 O L : Nat} {e nx : Int} {cs : List Cn} {qs : List Wn} {ns : List Int} {cv qv v : Value} {arr : Array Value} (h : FS w1 B2 O e nx cs qs ns cv qv v wx) (hL : Box wx L 37 arr) (hn : L ∉ cv.ownBlock.toList) (hB : B2 ≤ L) (ho : Only [L] wx wy) : FS w1 B2 O e nx cs qs ns cv qv v wy :=
  ⟨h.box.keepT (TSame.only ho hL (by decide)), h.cns.only ho (fun b hb h => by simp at h; subst h; exact hn hb), h.wns.keepT (TSame.only ho hL (by decide)), h.ins.keepT (TSame.only ho hL (by decide)), h.bel.trans (ho.below h.sz (by simp; exact hB)), by have := ho.size; have := h.sz; omega, h.lo⟩
end Go.Proofs.YtfdefjdogmhinaaDoor.Msg
