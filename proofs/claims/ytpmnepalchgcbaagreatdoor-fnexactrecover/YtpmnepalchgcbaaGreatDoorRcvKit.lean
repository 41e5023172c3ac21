import Derived.Test.YtpmnepalchgcbaaGreatDoorBkApply2withBufPutwithBufStr
import Derived.Test.YtpmnepalchgcbaaGreatDoorBkAddwithBkOfwithBkTable
import Derived.Test.YtpmnepalchgcbaaGreatDoorLogSpecwithLogAllwithLogImpl
import Derived.Test.YtpmnepalchgcbaaGreatDoorChgDecI2
import Derived.Test.YtpmnepalchgcbaaGreatDoorRcvS
import Derived.RangeFuncWrites
import Derived.RangeFuncBound
namespace Go.Proofs.YtpmnepalchgcbaaGreatDoor.Msg
open Go.ChangeShapes Go.WideShapes Go.ChangeAt Go.RowKit
set_option linter.unusedVariables false
set_option linter.unusedSimpArgs false

/-! impl.Recover: the book beside the boxes of a range over a function -/
theorem doP_same {xs : List Sess} {c : Chg} (h : (doP xs c).2 ≠ 0) : (doP xs c).1 = xs := by
  unfold doP at h ⊢
  split at h
  · rename_i hk
    rw [if_pos hk]
    unfold openP at h ⊢
    cases e : xs.findIdx? (keyB c.client c.tag) with
    | none =>
      rw [e] at h
      dsimp only at h ⊢
      unfold openFin at h ⊢
      split
      · rfl
      · rename_i hl; rw [if_neg hl] at h; exact absurd rfl h
    | some i =>
      rw [e] at h
      dsimp only at h ⊢
      split
      · rfl
      · rename_i hl
        rw [if_neg hl] at h
        unfold openFin at h ⊢
        split
        · rfl
        · rename_i hl2; rw [if_neg hl2] at h; exact absurd rfl h
  · rename_i hk
    rw [if_neg hk]
    unfold opP at h ⊢
    cases e : xs.findIdx? (keyB c.client c.tag) with
    | none => rfl
    | some i =>
      rw [e] at h
      dsimp only at h ⊢
      cases e2 : stepS (xs.getD i sess0) c with
      | error k => rfl
      | ok s => rw [e2] at h; exact absurd rfl h
theorem BK.cellsB {base : Nat} {X : World} {K M : Nat} {ov : Value} {n : Nat} {ps : List (Sess × Value)} {bs : List Nat} (h : BK base X K M ov n ps bs) {d : Nat} (hd : BIn K M ov ps bs d) (hm : d ≠ M) : ∃ cs t, X.heap[d]? = some (.cells cs t (0, 0)) := by
  rcases hd with hd | hd | hd | hd | ⟨p, hp, hd⟩
  · subst hd; exact ⟨_, _, h.box⟩
  · exact absurd hd hm
  · obtain ⟨cs, e⟩ := h.row.blk hd
    exact ⟨cs, _, e⟩
  · obtain ⟨i, hi, rfl⟩ := List.mem_iff_getElem.1 hd
    exact ⟨_, _, h.ses i (by rw [← h.len]; exact hi) hi⟩
  · obtain ⟨cs, e⟩ := (h.els p hp).2.blk hd
    exact ⟨cs, _, e⟩
/-- where all lies -/
structure RC (x1 : World) (base K M Bb Bi B5 : Nat) : Prop where
  a : x1.heap.size ≤ base
  b : M < Bb
  c : Bb < Bi
  d : Bi < B5
  e : x1.heap.size ≤ Bb
structure RI (x1 : World) (base K M Bb Bi B5 : Nat) (ib : Option Obj) (n : Nat) (ys : List Sess) (X : World) : Prop where
  book : ∃ ov nm ps bs, BK base X K M ov nm ps bs ∧ ps.map Prod.fst = ys ∧ nm ≤ n ∧ ∀ d, BIn K M ov ps bs d → d < Bb ∨ B5 ≤ d
  ptr : Box X Bb 39 #[.pointer (some ⟨K, 0, none⟩)]
  img : X.heap[Bi]? = ib
  below : Below x1.heap.size x1 X
  size : B5 ≤ X.heap.size
section
variable {x1 : World} {base K M Bb Bi B5 : Nat} {ib : Option Obj} {n : Nat} {ys : List Sess} {X Y : World}
theorem RI.bel (h : RI x1 base K M Bb Bi B5 ib n ys X) (hc : RC x1 base K M Bb Bi B5) (hb : Below X.heap.size X Y) : RI x1 base K M Bb Bi B5 ib n ys Y := by
  obtain ⟨ov, nm, ps, bs, h1, h2, h3, h4⟩ := h.book
  have := hc.d
  have := h.size
  exact ⟨⟨ov, nm, ps, bs, h1.below hb, h2, h3, h4⟩, h.ptr.below hb, (hb.block Bi (by omega)).trans h.img, bjoin hb h.below, Nat.le_trans h.size hb.size⟩
theorem RI.turned (h : RI x1 base K M Bb Bi B5 ib n ys X) (hc : RC x1 base K M Bb Bi B5) {row : Option Nat} (hg : X.grownBy Y row) (hr : ∀ r, row = some r → B5 ≤ r ∧ ∃ o : Obj, X.heap[r]? = some o ∧ o.isCells = false) : RI x1 base K M Bb Bi B5 ib n ys Y := by
  obtain ⟨ov, nm, ps, bs, h1, h2, h3, h4⟩ := h.book
  have c1 := hc.b; have c2 := hc.c; have c3 := hc.d; have c4 := hc.e
  have hs := h.size
  have hlow : ∀ k, k < B5 → Y.heap[k]? = X.heap[k]? := fun k hk => hg.block k (by omega) fun e => by have := (hr k e.symm).1; omega
  refine ⟨⟨ov, nm, ps, bs, h1.keep fun d hd => ?_, h2, h3, h4⟩, h.ptr.keep (hlow Bb (by omega)), (hlow Bi c3).trans h.img, ?_, Nat.le_trans hs hg.size⟩
  · by_cases hm : d = M
    · subst hm; exact hlow d (by omega)
    · refine hg.block d (h1.own hd).2 fun e => ?_
      obtain ⟨_, o, ho, hoc⟩ := hr d e.symm
      obtain ⟨cs, t, e2⟩ := h1.cellsB hd hm
      rw [e2] at ho
      cases ho
      cases hoc
  · exact h.below.trans ⟨hg.os, hg.tape, hg.output, hg.size, fun k hk => hlow k (by omega)⟩
/-- a change is made -/
theorem RI.step {ov : Value} {nm : Nat} {ps : List (Sess × Value)} {bs : List Nat} (h : RI x1 base K M Bb Bi B5 ib n ys X) (hc : RC x1 base K M Bb Bi B5) (hbk : BK base X K M ov nm ps bs) (hnm : nm ≤ n) (hin : ∀ d, BIn K M ov ps bs d → d < Bb ∨ B5 ≤ d) {ov' : Value} {n' : Nat} {ps' : List (Sess × Value)} {bs' : List Nat} {ys' : List Sess} (hbk' : BK base Y K M ov' n' ps' bs') (he : ps'.map Prod.fst = ys') (hn' : n' ≤ nm + 1) (hft : Ft (BIn K M ov ps bs) X (BIn K M ov' ps' bs') Y) (hb : Below base X Y) :
    RI x1 base K M Bb Bi B5 ib (n + 1) ys' Y ∧ KeepsFrom B5 X Y := by
  have c0 := hc.a; have c1 := hc.b; have c2 := hc.c; have c3 := hc.d; have c4 := hc.e
  have hs := h.size
  have hout : ∀ d, Bb ≤ d → d < B5 → Y.heap[d]? = X.heap[d]? := fun d h1 h2 => hft.out d (by omega) fun h3 => by rcases hin d h3 with h4 | h4 <;> omega
  refine ⟨⟨⟨ov', n', ps', bs', hbk', he, by omega, fun d hd => ?_⟩, h.ptr.keep (hout Bb (Nat.le_refl _) (by omega)), (hout Bi (by omega) c3).trans h.img, h.below.trans (hb.mono c0), Nat.le_trans hs hft.size⟩, hft.size, fun k o hk ho hoc => ?_⟩
  · rcases hft.grow d hd with h1 | h1
    · exact hin d h1
    · right; omega
  · have hlt : k < X.heap.size := (Array.getElem?_eq_some_iff.1 ho).1
    rw [hft.out k hlt fun h1 => ?_, ho]
    obtain ⟨cs, t, e2⟩ := hbk.cellsB h1 (by omega)
    rw [e2] at ho
    cases ho
    cases hoc
end
theorem keepsFrom_below {B : Nat} {X Y : World} (hb : Below X.heap.size X Y) : KeepsFrom B X Y := ⟨hb.size, fun k o _ hk _ => (hb.block k (Array.getElem?_eq_some_iff.1 hk).1).trans hk⟩
/-- the records, each text no longer than a record may be -/
abbrev RT := { p : ByteArray × Nat // p.1.size ≤ 60000 }
theorem records_stops (img : ByteArray) (hI : img.size ≤ 1048576) (Bi : Nat) (w0 : World) (hBi : w0.heap[Bi]? = some (.cells #[.string img] 9 (0, 0))) :
    SeqStopsK (α := RT) Fence.wide 5 Tryz.prog 36 #[.pointer (some ⟨Bi, 0, none⟩)] (fun x => #[.string x.val.1, .int .i64 ((x.val.2 : Nat) : Int)]) (fun X X' => X'.heap[Bi]? = X.heap[Bi]?) (fun ls => ls.map Subtype.val = recsA img) (fun ls => ∃ k, ls.map Subtype.val = recsK img k) 32769 w0 := by
  intro l J Jx X hX hJ hJx hY h0
  have hlt : Bi < w0.heap.size := (Array.getElem?_eq_some_iff.1 hBi).1
  refine (records1_sz 5 l Bi img (by omega) hI (fun pre W => ∃ ls : List RT, ls.map Subtype.val = pre ∧ J ls W) (fun pre W => ∃ ls : List RT, ls.map Subtype.val = pre ∧ Jx ls W) X ?_ ?_ ((hX.block Bi hlt).trans hBi) ⟨[], rfl, h0⟩).mono ?_
  · rintro pre W W' row ⟨ls, he, hj⟩ hg hr
    exact ⟨ls, he, hJ ls W W' row hj hg hr⟩
  · rintro pre x W1 ⟨ls, he, hj⟩ hlen hsz
    refine (hY ls ⟨x, hsz⟩ W1 hj (by rw [← he, List.length_map] at hlen; exact hlen)).mono ?_
    rintro e w' (⟨h1, h2, h3⟩ | ⟨h1, h2⟩)
    · exact .inl ⟨h1, ⟨ls ++ [⟨x, hsz⟩], by rw [List.map_append, he]; rfl, h2⟩, h3⟩
    · exact .inr ⟨h1, ⟨ls ++ [⟨x, hsz⟩], by rw [List.map_append, he]; rfl, h2⟩⟩
  · rintro e W' ⟨hv, ⟨ys, rfl, ls, he, hj⟩ | ⟨pre, ⟨k, rfl⟩, ls, he, hj⟩⟩
    · exact ⟨hv, .inl ⟨ls, he, hj⟩⟩
    · exact ⟨hv, .inr ⟨ls, ⟨k, he⟩, hj⟩⟩
theorem TE.cellsB {base : Nat} {X : World} {v : Value} {ps : List (Sess × Value)} (h : TE base X v ps) {d : Nat} (hd : TE.In v ps d) : ∃ cs t, X.heap[d]? = some (.cells cs t (0, 0)) := by
  rcases hd with hd | ⟨p, hp, hd⟩
  · obtain ⟨cs, e⟩ := h.row.blk hd
    exact ⟨cs, _, e⟩
  · obtain ⟨cs, e⟩ := (h.els p hp).2.blk hd
    exact ⟨cs, _, e⟩
theorem TE.putObj {base : Nat} {X : World} {v : Value} {ps : List (Sess × Value)} (h : TE base X v ps) {D : Nat} {o : Obj} (hD : X.heap[D]? = some o) (ho : o.isCells = false) (o' : Obj) : TE base (X.putObj D o') v ps :=
  h.keep fun d hd => World.putObj_heap_other fun e => by
    obtain ⟨cs, t, e2⟩ := h.cellsB hd
    rw [e, hD] at e2
    injection e2 with e2
    subst e2
    cases ho
end Go.Proofs.YtpmnepalchgcbaaGreatDoor.Msg
