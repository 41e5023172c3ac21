import Derived.Test.YtfdefjdogmhinaaDoorDeskOfwithDeskPure
import Derived.Test.YtfdefjdogmhinaaDoorServeSwithAskS
import Derived.Test.YtfdefjdogmhinaaDoorDeskClonewithPoolOkI
import Derived.Test.YtfdefjdogmhinaaDoorDeskwithDeskServe
namespace Go.Proofs.YtfdefjdogmhinaaDoor.Msg
open Go.ChangeShapes Go.WideShapes Go.ChangeAt Go.RowKit
set_option linter.unusedVariables false
set_option linter.unusedSimpArgs false

/-- a queue that is full finds no line free -/
theorem full_free {x : Pl} (h : okPl x = true) (hq : x.queue.length = 16) : freeI x.conns < 0 ∧ 16 ≤ x.queue.length := by
  refine ⟨Int.not_le.1 fun h0 => ?_, by omega⟩
  obtain ⟨k, hk, hb⟩ := freeI_some h0
  rw [okPl_free hk hb (by omega)] at h
  cases h
/-- the sizes of what a desk holds -/
def DsZ (s : Ds) : Prop := (∀ c ∈ s.conns, cnZ c) ∧ (∀ q ∈ s.queue, wnZ q) ∧ ∀ t ∈ s.sent, stZ t
theorem sendP_Z {s : Ds} (k : Nat) (z : Wn) (h : DsZ s) (hz : wnZ z) (he : s.epoch ≤ 9999999) (hn : s.next ≤ 9999999) : DsZ (sendP s k z) := by
  have hc := ctl_size s.epoch s.next he hn
  refine ⟨fun c hc' => ?_, h.2.1, fun t ht => ?_⟩
  · rcases List.mem_or_eq_of_mem_set hc' with h1 | h1
    · exact h.1 c h1
    · rw [h1]; exact ⟨by simp only; omega, hz⟩
  · rcases List.mem_append.1 ht with h1 | h1
    · exact h.2.2 t h1
    · simp at h1; rw [h1]; exact ⟨by simp only; omega, hz⟩
theorem serveD_Z : ∀ (f : Nat) (s : Ds), s.epoch ≤ 9999999 → s.next + f ≤ 9999999 → DsZ s → DsZ (serveD f s) ∧ (serveD f s).conns.length = s.conns.length ∧ (serveD f s).queue.length ≤ s.queue.length ∧ (serveD f s).sent.length ≤ s.sent.length + f
  | 0, s, _, _, h => ⟨h, rfl, Nat.le_refl _, Nat.le_refl _⟩
  | f + 1, s, he, hn, h => by
    cases hf : s.free with
    | nil => rw [serveD_nofree _ _ hf]; exact ⟨h, rfl, Nat.le_refl _, by omega⟩
    | cons k fs =>
      cases hq : s.queue with
      | nil => rw [serveD_noqueue _ _ hq]; exact ⟨h, rfl, by rw [hq]; simp, by omega⟩
      | cons z qs =>
        rw [serveD_step f s hf hq]
        have h1 : DsZ { s with free := fs, queue := qs } := ⟨h.1, fun q hq' => h.2.1 q (by rw [hq]; exact List.mem_cons_of_mem _ hq'), h.2.2⟩
        have h2 := sendP_Z k z h1 (h.2.1 z (by rw [hq]; simp)) (by simp only; omega) (by simp only; omega)
        obtain ⟨i1, i2, i3, i4⟩ := serveD_Z f (sendP { s with free := fs, queue := qs } k z) (by simp only [sendP]; omega) (by simp only [sendP]; omega) h2
        refine ⟨i1, ?_, ?_, ?_⟩
        · rw [i2]; simp [sendP]
        · have e : (sendP { s with free := fs, queue := qs } k z).queue.length = qs.length := rfl
          rw [e] at i3
          simp only [List.length_cons]; omega
        · have e : (sendP { s with free := fs, queue := qs } k z).sent.length = s.sent.length + 1 := by simp [sendP]
          rw [e] at i4
          omega
theorem mem_all {α : Type} {xs : List α} {Z : α → Prop} (h : ∀ x ∈ xs, Z x) : ∀ i (hi : i < xs.length), Z xs[i] := fun i hi => h _ (List.getElem_mem hi)
theorem all_mem {α : Type} {xs : List α} {Z : α → Prop} (h : ∀ i (hi : i < xs.length), Z xs[i]) : ∀ x ∈ xs, Z x := fun x hx => by
  obtain ⟨i, hi, e⟩ := List.getElem_of_mem hx
  rw [← e]; exact h i hi
/-- what a desk serves is what the pool of it serves -/
theorem served (s : Ds) (hf : s.free = freeIdx s.conns ∨ s.queue = []) (hs : s.sent = []) : serveA s.now ⟨s.epoch, s.next, s.conns, s.queue⟩ = (⟨(serveD s.queue.length s).epoch, (serveD s.queue.length s).next, (serveD s.queue.length s).conns, (serveD s.queue.length s).queue⟩, (serveD s.queue.length s).sent) := by
  obtain ⟨_, _, h3, h4⟩ := serveD_serve s.queue.length s hf
  rw [hs, List.nil_append] at h4
  unfold serveA
  exact Prod.ext h3 h4.symm
end Go.Proofs.YtfdefjdogmhinaaDoor.Msg

namespace Go.Proofs.YtfdefjdogmhinaaDoor.Msg
open Go.ChangeShapes Go.WideShapes Go.ChangeAt Go.RowKit
set_option linter.unusedVariables false
set_option linter.unusedSimpArgs false

theorem MapO.del {w : World} {M n : Nat} (h : MapO w M n) (i : Int) (s : ByteArray) (ty : TypeId) (hi : (Lit.int .i64 i).wf = true) (hs : s.size ≤ 9223372036854775807) :
    ∃ w', (Builtin.delete_ #[56, 66] ty #[.map (some M), .agg #[.int .i64 i, .string s]]).run Tryd.prog w = .ok (.tuple #[]) w' ∧ MapO w' M n ∧ Only [M] w w' := by
  obtain ⟨D, h⟩ := h
  obtain ⟨kl, hk⟩ := key_some i s hi hs
  obtain ⟨w', hr, ho, ht⟩ := h.drop outKeyed Tryd.underlying56 hk ty
  have hg := ht.grown
  exact ⟨w', hr, ⟨_, ho⟩, hg.os, hg.tape, hg.output, hg.size, fun k hk1 hk2 => hg.block k hk1 fun e => hk2 (by injection e with e; rw [e]; simp)⟩
theorem step_del {ops : Array Oper} {o : Oper} {a : Act} {K : Act → World → Prop} {Q : Exit → Act → World → Prop} {E : Prop} {w w' : World} {v y v' : Value} (hgd : o.guard = none) (s x : Operand) (t u : TypeId)
    (ho : o.op = .call { callee := .builtin .delete, args := #[s, x], argTypes := #[t, u] }) (hr : (Builtin.delete_ #[t, u] o.type #[v, y]).run Tryd.prog w = .ok v' w') (hs : a.eval s = v) (hx : a.eval x = y) (h : K (a.put o.dst v') w') :
    if Region.wanted o (yielded ops a.tmps) = true then Oper.wp Tryd.prog o a w K Q else E := by
  have hw : Region.wanted o (yielded ops a.tmps) = true := by simp [Region.wanted, hgd]
  rw [if_pos hw]
  unfold Oper.wp execOp
  simp only [ho, resolve, invoke, builtin, Sem.run_bind, Sem.run_pure, Result.andThen_ok, List.map_toArray, List.map_cons, List.map_nil, hs, hx, hr]
  exact h
theorem Desk.keepQ {lo : Nat} {w w' : World} {D M : Nat} {Ls : List Nat} {s : Ds} {lv fv qv sv : Value} {n : Nat} (h : Desk lo w D M Ls s lv fv qv sv n) (h1 : TSame 58 w w') (h2 : TSame 68 w w') (h3 : TSame 64 w w') (h4 : FV wnC 4 33 lo w' qv s.queue) (h5 : TSame 48 w w') (h6 : w'.heap[M]? = w.heap[M]?) : Desk lo w' D M Ls s lv fv qv sv n :=
  ⟨h.box.keepT h1, h.len, fun i hi h2' => (h.line i hi h2').keepT h2, h.nd, h.lrow.keepT h3, h.free.keepT h3, h.fok, h4, h.sent.keepT h5, h.map.keep h6, h.lows⟩
def relD (s : Ds) (k : Nat) : Ds := { s with conns := s.conns.set k cn0, free := s.free ++ [k] }

set_option maxRecDepth 100000 in
set_option maxHeartbeats 6000000 in
theorem release_any {lo : Nat} {w : World} {D M : Nat} {Ls : List Nat} {s : Ds} {lv fv qv sv : Value} {n : Nat} (h : DeskN lo w D M Ls s lv fv qv sv n) (k : Nat) (hk : k < Ls.length) (hkc : k < s.conns.length) (hlo : lo ≤ w.heap.size) (hz : cnZ s.conns[k]) (hfl : s.free.length ≤ 1000) (hk4 : Ls.length ≤ 100) :
    Calls Tryd.prog 30 #[.pointer (some ⟨D, 0, none⟩), .pointer (some ⟨Ls[k], 0, none⟩)] w fun en w' => en = .returned (wnV s.conns[k].want) ∧ ∃ fv', DeskN lo w' D M Ls (relD s k) lv fv' qv sv n ∧ Below lo w w' ∧ TKeep w w' := by
  obtain ⟨L, hL⟩ : ∃ L, Ls[k] = L := ⟨_, rfl⟩
  obtain ⟨c, hc⟩ : ∃ c, s.conns[k] = c := ⟨_, rfl⟩
  rw [hc] at hz
  rw [hL, hc]
  unfold wnV
  obtain ⟨w1, hw1⟩ : ∃ w1, (w.alloc (Obj.cells #[.int .i64 0, .string ⟨#[]⟩, .string ⟨#[]⟩, .string ⟨#[]⟩] 33)).alloc (Obj.cells #[.int .i64 c.want.client, .string c.want.tag, .string c.want.query, .string c.want.pointer] 33) = w1 := ⟨_, rfl⟩
  have hb1 : Below w.heap.size w w1 := by rw [← hw1]; exact ((Below.refl _ _).alloc (Nat.le_refl _) _).alloc (by simp) _
  have hXR : Box w1 w.heap.size 33 #[.int .i64 0, .string ⟨#[]⟩, .string ⟨#[]⟩, .string ⟨#[]⟩] := by rw [← hw1]; exact (Box.new _ _ _).alloc _
  have hXV : Box w1 (w.heap.size + 1) 33 #[.int .i64 c.want.client, .string c.want.tag, .string c.want.query, .string c.want.pointer] := by
    have := Box.new (w.alloc (Obj.cells #[.int .i64 0, .string ⟨#[]⟩, .string ⟨#[]⟩, .string ⟨#[]⟩] 33)) 33 #[.int .i64 c.want.client, .string c.want.tag, .string c.want.query, .string c.want.pointer]
    rw [hw1, Deep.nblk_alloc] at this
    exact this
  have hl0 : Box w L 68 (lnA c k) := by have := h.desk.line k hk hkc; rw [hL, hc] at this; exact this
  obtain ⟨⟨l0, l1, l2, l3, l4, l5, l6, l7⟩, _⟩ := hl0.line7
  have lL := hl0.lt
  obtain ⟨D2, hwd2⟩ : ∃ D2, w1.drew = D2 := ⟨_, rfl⟩
  have hk0 : Below w1.heap.size w1 w1.drew := (Below.refl _ _).drew
  have hk1 : Below w1.heap.size w1 D2 := by rw [← hwd2]; exact hk0
  have HN := hide h
  have HB1 := hide hb1
  have HXR := hide hXR
  have HXV := hide hXV
  have KS : Hid (∀ X, Below w1.heap.size w1 X → X.cell? ⟨D, 5, none⟩ = some (.map (some M))) := fun X hX => (HN.out.desk.below (bjoin hX HB1.out)).cells.1.2.2.2.2.2.1
  have HLB : Hid (∀ X, Below w1.heap.size w1 X → Box X L 68 (lnA c k)) := fun X hX => hl0.below (bjoin hX HB1.out)
  have HDEL : Hid (∀ X ty, Below w1.heap.size w1 X → ∃ W', (Builtin.delete_ #[56, 66] ty #[.map (some M), .agg #[.int .i64 (k : Int), .string c.control]]).run Tryd.prog X = .ok (.tuple #[]) W' ∧ MapO W' M n ∧ Only [M] X W') := fun X ty hX => (HN.out.desk.below (bjoin hX HB1.out)).map.del (k : Int) c.control ty (by simp [Lit.wf, IntKind.min, IntKind.max, IntKind.signed, IntKind.bits]; omega) hz.1
  clear h hb1 hXR hXV
  go_enter Tryd.func30, Tryd.ntmps30
  go_wp2_with fail
  go_region_held3 (fun X : World => X.cell? ⟨D, 5, none⟩ = some (.map (some M)))
    (first | with_reducible exact KS.out _ hk0 | with_reducible exact KS.out _ hk1 | with_reducible exact KS.out _ hS3 | with_reducible exact hcM4)
    (first
      | (go_at_call 41; refine (lineKey_any c k L _ (HLB.out _ hk1)).mono ?_; rintro e W3 ⟨rfl, hb3⟩; have hS3 : Below w1.heap.size w1 W3 := bjoin hb3 hk1; obtain ⟨W4, hr4, hm4, ho4⟩ := HDEL.out W3 0 hS3; have hcM4 : W4.cell? ⟨D, 5, none⟩ = some (.map (some M)) := ((HN.out.desk.below (bjoin hS3 HB1.out)).mapSet ho4 hm4).cells.1.2.2.2.2.2.1)
      | (refine step_del rfl _ _ 56 66 rfl hr4 (by first | rfl | simp [Act.eval, Act.put]) (by first | rfl | simp [Act.eval, Act.put]) ?_))
  have hbW3 : Below w.heap.size w W3 := bjoin hS3 HB1.out
  have hn3 := HN.out.below hbW3
  have hd4 := hn3.desk.mapSet ho4 hm4
  have hff4 := hn3.ffree.keepT (TSame.map ho4 hn3.desk.map)
  have hXR4 := (HXR.out.below hS3).keepT (TSame.map ho4 hn3.desk.map)
  have hXV4 := (HXV.out.below hS3).keepT (TSame.map ho4 hn3.desk.map)
  have htk4 : TKeep w W4 := (TKeep.below hbW3).trans (TKeep.map ho4 hn3.desk.map)
  have hbl4 : Below lo w W4 := by
    have c1 : Below lo w W3 := hbW3.mono hlo
    exact c1.trans (ho4.below (by have := c1.size; omega) fun d hd => by simp at hd; have := HN.out.desk.lows.2.1; omega)
  have hl4 : Box W4 L 68 (lnA c k) := by have := hd4.line k hk hkc; rw [hL, hc] at this; exact this
  obtain ⟨⟨m0, m1, m2, m3, m4, m5, m6, m7⟩, mf0, mf1, mf2, mf3, mf4, mf5, mf6⟩ := hl4.line7
  obtain ⟨Y, hY⟩ : ∃ Y, lineSet W4 L cn0 = Y := ⟨_, rfl⟩
  have hY' : (((((((W4.setCell ⟨L, 0, none⟩ (.bool false)).setCell ⟨L, 1, none⟩ (.string ⟨#[]⟩)).setCell ⟨L, 2, none⟩ (.int .i64 0)).setCell ⟨L, 3, none⟩ (.string ⟨#[]⟩)).setCell ⟨L, 4, none⟩ (.string ⟨#[]⟩)).setCell ⟨L, 5, none⟩ (.string ⟨#[]⟩)).setCell ⟨L, 6, none⟩ (.int .i64 0)) = Y := hY
  have oY : Only [L] W4 Y := by rw [← hY]; exact lineSet_only _ _ _
  have hdY : Desk lo Y D M Ls { s with conns := s.conns.set k cn0 } lv fv qv sv n := by
    have := hd4.lineSet hk cn0
    rw [hL, hY] at this
    exact this
  have hffY := hff4.keepT (TSame.only oY hl4 (by decide))
  have hXRY := hXR4.keepT (TSame.only oY hl4 (by decide))
  have hXVY := hXV4.keepT (TSame.only oY hl4 (by decide))
  have htkY : TKeep w Y := htk4.trans (TKeep.line oY hl4)
  have hLlo : lo ≤ L := by rw [← hL]; exact HN.out.desk.lows.2.2 _ (List.getElem_mem hk)
  have hblY : Below lo w Y := hbl4.trans (oY.below (by have := hbl4.size; omega) fun d hd => by simp at hd; omega)
  obtain ⟨v5, W5, hr5, hF5, o5, hat5⟩ := app1 Tryd.underlying55 info_Ptr rfl (by decide) ptrC_len ptrC_one hffY 55 L (Nat.le_trans hlo hblY.size) (by rw [List.length_map]; omega) (by omega)
  have hr5' : (Builtin.append_ #[55, 55] 55 #[fv, .slice (some ⟨Y.heap.size, 0, none⟩) 1 1]).run Tryd.prog (Y.alloc (.cells #[.pointer (some ⟨L, 0, none⟩)] 64)) = .ok v5 W5 := hr5
  have hLk : Ls.getD k 0 = L := by rw [List.getD_eq_getElem?_getD, List.getElem?_eq_getElem hk]; exact hL
  have hF5' : FB ptrC 1 64 lo W5 v5 ((s.free ++ [k]).map fun i => Ls.getD i 0) := by
    rw [List.map_append, List.map_cons, List.map_nil, hLk]
    exact hF5
  have hl5 := hdY.lrow.only o5 (fun d hd h => HN.out.sep d h hd)
  have hd6 := hdY.addFree (k := k) hk hffY o5 hF5' hl5
  have hbox5 : Box W5 D 58 _ := hdY.box.keepT (TSame.own hffY o5 (by decide))
  obtain ⟨W6, hW6⟩ : ∃ V, W5.setCell ⟨D, 4, none⟩ v5 = V := ⟨_, rfl⟩
  rw [hW6] at hd6
  have oD6 : Only [D] W5 W6 := by rw [← hW6]; exact (Only.refl _ _).setCell (by simp) _
  have hXR6 := (hXRY.keepT (TSame.own hffY o5 (by decide))).keepT (TSame.only oD6 hbox5 (by decide))
  have hXV6 := (hXVY.keepT (TSame.own hffY o5 (by decide))).keepT (TSame.only oD6 hbox5 (by decide))
  have hF6 := hF5'.keepT (TSame.only oD6 hbox5 (by decide))
  have htk6 : TKeep w W6 := htkY.trans ((TKeep.ptrs hffY o5).trans (TKeep.desk oD6 hbox5))
  have hbl6 : Below lo w W6 := by
    have c5 := hblY.trans (o5.below (Nat.le_trans hlo hblY.size) fun d hd => (hffY.own d hd).1)
    exact c5.trans (oD6.below (by have := c5.size; omega) fun d hd => by simp at hd; have := HN.out.desk.lows.1; omega)
  have hsep6 : ∀ d ∈ v5.ownBlock.toList, d ∉ lv.ownBlock.toList := fun d hd h => by
    rcases hat5 with h5 | ⟨g, h5, hg⟩
    · rw [h5] at hd; exact HN.out.sep d hd h
    · rw [h5] at hd; simp at hd; subst hd; have := (hdY.lrow.own _ h).2; omega
  have HFIN : Hid (∀ x0 x1 x2 x3, DeskN lo ((((W6.setCell ⟨w.heap.size, 0, none⟩ x0).setCell ⟨w.heap.size, 1, none⟩ x1).setCell ⟨w.heap.size, 2, none⟩ x2).setCell ⟨w.heap.size, 3, none⟩ x3) D M Ls (relD s k) lv v5 qv sv n ∧ Below lo w ((((W6.setCell ⟨w.heap.size, 0, none⟩ x0).setCell ⟨w.heap.size, 1, none⟩ x1).setCell ⟨w.heap.size, 2, none⟩ x2).setCell ⟨w.heap.size, 3, none⟩ x3) ∧ TKeep w ((((W6.setCell ⟨w.heap.size, 0, none⟩ x0).setCell ⟨w.heap.size, 1, none⟩ x1).setCell ⟨w.heap.size, 2, none⟩ x2).setCell ⟨w.heap.size, 3, none⟩ x3)) := fun x0 x1 x2 x3 => by
    have hO : Only [w.heap.size] W6 ((((W6.setCell ⟨w.heap.size, 0, none⟩ x0).setCell ⟨w.heap.size, 1, none⟩ x1).setCell ⟨w.heap.size, 2, none⟩ x2).setCell ⟨w.heap.size, 3, none⟩ x3) := ((((Only.refl _ _).setCell (by simp) _).setCell (by simp) _).setCell (by simp) _).setCell (by simp) _
    generalize ((((W6.setCell ⟨w.heap.size, 0, none⟩ x0).setCell ⟨w.heap.size, 1, none⟩ x1).setCell ⟨w.heap.size, 2, none⟩ x2).setCell ⟨w.heap.size, 3, none⟩ x3) = X at hO
    have htX : TKeep w X := fun e h1 h2 h3 h4 d cur hd => (hO.block d (by have := (hd.keep (htk6 e h1 h2 h3 h4 d cur hd)).lt; exact this) (by have := hd.lt; simp; omega)).trans (htk6 e h1 h2 h3 h4 d cur hd)
    have tW : TSame 33 w X := htX _ (by decide) (by decide) (by decide) (by decide)
    refine ⟨⟨hd6.keepQ (TSame.only hO hXR6 (by decide)) (TSame.only hO hXR6 (by decide)) (TSame.only hO hXR6 (by decide)) (HN.out.desk.queue.keepT tW) (TSame.only hO hXR6 (by decide)) (hO.block M hd6.map.lt (by simp; exact fun e => (hd6.map.ne hXR6) e.symm)), hF6.keepT (TSame.only hO hXR6 (by decide)), hsep6, HN.out.fqueue.keepT tW⟩, hbl6.trans (hO.below (by have := hbl6.size; omega) fun d hd => by simp at hd; omega), htX⟩
  obtain ⟨af, cf, hff, _⟩ := hffY.form
  rw [List.length_map] at hff
  obtain ⟨a5, c5, hf5, _⟩ := hF5.form
  rw [List.length_append, List.length_singleton, List.length_map] at hf5
  have q4 : Y.cell? ⟨D, 4, none⟩ = some fv := hdY.cells.1.2.2.2.2.1
  have r4 : W5.cell? ⟨D, 4, none⟩ = some fv := hbox5.cell 4 (by simp)
  have rf4 := hbox5.frozen 4
  have tD := hdY.box.lt
  obtain ⟨v0, v1, v2, v3⟩ : W6.cell? ⟨w.heap.size + 1, 0, none⟩ = some (.int .i64 c.want.client) ∧ W6.cell? ⟨w.heap.size + 1, 1, none⟩ = some (.string c.want.tag) ∧ W6.cell? ⟨w.heap.size + 1, 2, none⟩ = some (.string c.want.query) ∧ W6.cell? ⟨w.heap.size + 1, 3, none⟩ = some (.string c.want.pointer) := ⟨hXV6.cell 0 (by simp), hXV6.cell 1 (by simp), hXV6.cell 2 (by simp), hXV6.cell 3 (by simp)⟩
  obtain ⟨z0, z1, z2, z3⟩ : W6.cell? ⟨w.heap.size, 0, none⟩ = some (.int .i64 0) ∧ W6.cell? ⟨w.heap.size, 1, none⟩ = some (.string ⟨#[]⟩) ∧ W6.cell? ⟨w.heap.size, 2, none⟩ = some (.string ⟨#[]⟩) ∧ W6.cell? ⟨w.heap.size, 3, none⟩ = some (.string ⟨#[]⟩) := ⟨hXR6.cell 0 (by simp), hXR6.cell 1 (by simp), hXR6.cell 2 (by simp), hXR6.cell 3 (by simp)⟩
  have zf0 := hXR6.frozen 0
  have zf1 := hXR6.frozen 1
  have zf2 := hXR6.frozen 2
  have zf3 := hXR6.frozen 3
  have hzl := hXR6.lt
  obtain ⟨fl, hfl'⟩ : ∃ fl, s.free.length = fl := ⟨_, rfl⟩
  rw [hfl'] at hff hf5
  subst hff hf5
  clear hfl' hbW3 hn3 hd4 hff4 hXR4 hXV4 htk4 hbl4 hl4 hY oY hdY hffY hXRY hXVY htkY hblY hr5 hF5 o5 hat5 hF5' hl5 hd6 hbox5 oD6 hXR6 hXV6 hF6 htk6 hbl6 hsep6 hLk hr4 hm4 ho4 hcM4 hS3 hb3 hk0 hk1 hwd2 l0 l1 l2 l3 l4 l5 l6 l7
  go_wp2_with (first | (at_builtin; refine wpList_app rfl _ _ 55 rfl hr5' (by first | rfl | simp [Act.eval, Act.put]) (by first | rfl | simp [Act.eval, Act.put]) ?_))
  refine bodyPost_ret (v := .agg #[.int .i64 c.want.client, .string c.want.tag, .string c.want.query, .string c.want.pointer]) (by simp [results, Tryd.results30, go_sem, z0, z1, z2, z3, hzl]) rfl ?_
  exact ⟨rfl, _, HFIN.out _ _ _ _⟩
end Go.Proofs.YtfdefjdogmhinaaDoor.Msg
