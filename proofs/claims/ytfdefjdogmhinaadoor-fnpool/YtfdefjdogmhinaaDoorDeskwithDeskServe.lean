import Derived.Test.YtfdefjdogmhinaaDoorServePurewithDeskLine
namespace Go.Proofs.YtfdefjdogmhinaaDoor.Msg
open Go.ChangeShapes Go.WideShapes Go.ChangeAt Go.RowKit
set_option linter.unusedVariables false
set_option linter.unusedSimpArgs false

structure Ds where
  epoch : Int
  next : Int
  now : Int
  conns : List Cn
  free : List Nat
  queue : List Wn
  sent : List St
def ptrC (b : Nat) : List Value := [.pointer (some ⟨b, 0, none⟩)]
theorem ptrC_len (b : Nat) : (ptrC b).length = 1 := rfl
theorem ptrC_one (b : Nat) : ∀ u ∈ ptrC b, u.oneCell' = true := by intro u hu; simp [ptrC] at hu; subst hu; rfl
theorem info_Ptr : (Tryd.prog.info? 64).map (fun i => (i.zero, i.size, i.bytes)) = some (some (.pointer none), 1, 8) := by kernel_rfl
/-- a part of a row, of one type of elements, in blocks from lo on -/
def FV {α : Type} (C : α → List Value) (c : Nat) (e : TypeId) (lo : Nat) (w : World) (v : Value) (xs : List α) : Prop :=
  (∃ a cap, v = .slice a 0 cap ∧ xs = []) ∨ ∃ b off cap cur, v = .slice (some ⟨b, off, none⟩) xs.length cap ∧ lo ≤ b ∧ Box w b e cur ∧ xs.length ≤ cap ∧ ∀ i (h : i < xs.length) j (hj : j < (C xs[i]).length), cur[off + i * c + j]? = some (C xs[i])[j]
/-- the blocks of this type are as they were -/
def TSame (e : TypeId) (w w' : World) : Prop := ∀ d cur, Box w d e cur → w'.heap[d]? = w.heap[d]?
theorem TSame.below {e : TypeId} {w w' : World} (h : Below w.heap.size w w') : TSame e w w' := fun d cur hd => h.block d hd.lt
theorem TSame.only {e t : TypeId} {w w' : World} {b : Nat} {cs : Array Value} (h : Only [b] w w') (hb : Box w b t cs) (ht : t ≠ e) : TSame e w w' := fun d cur hd => h.block d hd.lt (by simp; exact fun e1 => by subst e1; exact (hb.ne hd ht) rfl)
theorem TSame.map {e : TypeId} {w w' : World} {M n : Nat} (h : Only [M] w w') (hb : MapO w M n) : TSame e w w' := fun d cur hd => h.block d hd.lt (by simp; exact hb.ne hd)
theorem FB.box {α : Type} {C : α → List Value} {c : Nat} {e : TypeId} {base : Nat} {w : World} {v : Value} {xs : List α} (h : FB C c e base w v xs) : ∀ d ∈ v.ownBlock.toList, ∃ cur, Box w d e cur := by
  obtain ⟨_, ⟨rfl, h0⟩ | ⟨g, cap, cur, rfl, hg, hs, _⟩⟩ := h
  · intro b hb; simp [Value.ownBlock] at hb
  · intro b hb
    simp [Value.ownBlock] at hb
    subst hb
    exact ⟨cur, hs⟩
theorem TSame.own {α : Type} {C : α → List Value} {c : Nat} {e t : TypeId} {base : Nat} {w w' : World} {v : Value} {xs : List α} (h : FB C c t base w v xs) (ho : Only v.ownBlock.toList w w') (ht : t ≠ e) : TSame e w w' := fun d cur hd => ho.block d hd.lt fun hm => by
  obtain ⟨cur', hb⟩ := h.box d hm
  exact (hb.ne hd ht) rfl
theorem FB.keepT {α : Type} {C : α → List Value} {c : Nat} {e : TypeId} {base : Nat} {w w' : World} {v : Value} {xs : List α} (h : FB C c e base w v xs) (ht : TSame e w w') : FB C c e base w' v xs := h.keep fun d hd => by
  obtain ⟨cur, hb⟩ := h.box d hd
  exact ht d cur hb
theorem Box.keepT {e : TypeId} {w w' : World} {b : Nat} {cs : Array Value} (h : Box w b e cs) (ht : TSame e w w') : Box w' b e cs := h.keep (ht b cs h)
theorem FV.keepT {α : Type} {C : α → List Value} {c : Nat} {e : TypeId} {lo : Nat} {w w' : World} {v : Value} {xs : List α} (h : FV C c e lo w v xs) (ht : TSame e w w') : FV C c e lo w' v xs := by
  rcases h with h | ⟨b, off, cap, cur, rfl, hlo, hb, hc, hx⟩
  · exact .inl h
  · exact .inr ⟨b, off, cap, cur, rfl, hlo, hb.keepT ht, hc, hx⟩
theorem FV.form {α : Type} {C : α → List Value} {c : Nat} {e : TypeId} {lo : Nat} {w : World} {v : Value} {xs : List α} (h : FV C c e lo w v xs) : ∃ a cap, v = .slice a xs.length cap := by
  rcases h with ⟨a, cap, rfl, rfl⟩ | ⟨b, off, cap, cur, rfl, _⟩
  · exact ⟨a, cap, rfl⟩
  · exact ⟨_, _, rfl⟩
theorem FV.of_own {α : Type} {C : α → List Value} {c : Nat} {e : TypeId} (hC : ∀ x, (C x).length = c) {lo base : Nat} {w : World} {v : Value} {xs : List α} (h : FB C c e base w v xs) (hlo : lo ≤ base) : FV C c e lo w v xs := by
  obtain ⟨hlen, ⟨rfl, h0⟩ | ⟨g, cap, cur, rfl, hg, hs, hcap, hm, hsz, htk⟩⟩ := h
  · exact .inl ⟨_, _, rfl, List.length_eq_zero_iff.1 h0⟩
  · refine .inr ⟨g, 0, cap, cur, rfl, by omega, hs, hcap, fun i hi j hj => ?_⟩
    rw [hC] at hj
    have hij : i * c + j < xs.length * c := by
      have : (i + 1) * c ≤ xs.length * c := Nat.mul_le_mul_right c hi
      rw [Nat.add_mul] at this
      omega
    have := flat_get hC xs i j hi hj
    rw [← htk, List.getElem?_take, if_pos hij] at this
    rw [Nat.zero_add, ← Array.getElem?_toList]
    exact this

structure Desk (lo : Nat) (w : World) (D M : Nat) (Ls : List Nat) (s : Ds) (lv fv qv sv : Value) (n : Nat) : Prop where
  box : Box w D 58 #[.int .i64 s.epoch, .int .i64 s.next, .int .i64 s.now, lv, fv, .map (some M), qv, sv]
  len : Ls.length = s.conns.length
  line : ∀ i (h : i < Ls.length) (h2 : i < s.conns.length), Box w Ls[i] 68 (lnA s.conns[i] i)
  nd : Ls.Nodup
  lrow : FB ptrC 1 64 lo w lv Ls
  free : FV ptrC 1 64 lo w fv (s.free.map fun i => Ls.getD i 0)
  fok : ∀ i ∈ s.free, i < Ls.length
  queue : FV wnC 4 33 lo w qv s.queue
  sent : FB stC 6 48 lo w sv s.sent
  map : MapO w M n
  lows : lo ≤ D ∧ lo ≤ M ∧ ∀ b ∈ Ls, lo ≤ b
theorem Desk.keep {lo : Nat} {w w' : World} {D M : Nat} {Ls : List Nat} {s : Ds} {lv fv qv sv : Value} {n : Nat} (h : Desk lo w D M Ls s lv fv qv sv n) (h1 : TSame 58 w w') (h2 : TSame 68 w w') (h3 : TSame 64 w w') (h4 : TSame 33 w w') (h5 : TSame 48 w w') (h6 : w'.heap[M]? = w.heap[M]?) : Desk lo w' D M Ls s lv fv qv sv n :=
  ⟨h.box.keepT h1, h.len, fun i hi h2' => (h.line i hi h2').keepT h2, h.nd, h.lrow.keepT h3, h.free.keepT h3, h.fok, h.queue.keepT h4, h.sent.keepT h5, h.map.keep h6, h.lows⟩
theorem Desk.below {lo : Nat} {w w' : World} {D M : Nat} {Ls : List Nat} {s : Ds} {lv fv qv sv : Value} {n : Nat} (h : Desk lo w D M Ls s lv fv qv sv n) (hb : Below w.heap.size w w') : Desk lo w' D M Ls s lv fv qv sv n :=
  h.keep (TSame.below hb) (TSame.below hb) (TSame.below hb) (TSame.below hb) (TSame.below hb) (hb.block M h.map.lt)

/-- the seven stores into a line -/
def lineSet (w : World) (L : Nat) (c : Cn) : World := ((((((w.setCell ⟨L, 0, none⟩ (.bool c.busy)).setCell ⟨L, 1, none⟩ (.string c.control)).setCell ⟨L, 2, none⟩ (.int .i64 c.want.client)).setCell ⟨L, 3, none⟩ (.string c.want.tag)).setCell ⟨L, 4, none⟩ (.string c.want.query)).setCell ⟨L, 5, none⟩ (.string c.want.pointer)).setCell ⟨L, 6, none⟩ (.int .i64 c.due)
theorem lineSet_only (w : World) (L : Nat) (c : Cn) : Only [L] w (lineSet w L c) :=
  (((((((Only.refl _ _).setCell (by simp) _).setCell (by simp) _).setCell (by simp) _).setCell (by simp) _).setCell (by simp) _).setCell (by simp) _).setCell (by simp) _
theorem lineSet_box {w : World} {L i : Nat} {c c' : Cn} (h : Box w L 68 (lnA c i)) : Box (lineSet w L c') L 68 (lnA c' i) := by
  have h7 := ((((((h.set 0 (.bool c'.busy)).set 1 (.string c'.control)).set 2 (.int .i64 c'.want.client)).set 3 (.string c'.want.tag)).set 4 (.string c'.want.query)).set 5 (.string c'.want.pointer)).set 6 (.int .i64 c'.due)
  have e : (((((((lnA c i).setIfInBounds 0 (.bool c'.busy)).setIfInBounds 1 (.string c'.control)).setIfInBounds 2 (.int .i64 c'.want.client)).setIfInBounds 3 (.string c'.want.tag)).setIfInBounds 4 (.string c'.want.query)).setIfInBounds 5 (.string c'.want.pointer)).setIfInBounds 6 (.int .i64 c'.due) = lnA c' i := by simp [lnA]
  rw [e] at h7
  exact h7
theorem nodup_ne {xs : List Nat} (h : xs.Nodup) {i k : Nat} (hi : i < xs.length) (hk : k < xs.length) (hne : i ≠ k) : xs[i] ≠ xs[k] := by
  rcases Nat.lt_or_gt_of_ne hne with h1 | h1
  · exact List.pairwise_iff_getElem.1 h i k hi hk h1
  · exact fun e => List.pairwise_iff_getElem.1 h k i hk hi h1 e.symm
theorem Desk.lineSet {lo : Nat} {w : World} {D M : Nat} {Ls : List Nat} {s : Ds} {lv fv qv sv : Value} {n : Nat} (h : Desk lo w D M Ls s lv fv qv sv n) {k : Nat} (hk : k < Ls.length) (c : Cn) :
    Desk lo (lineSet w Ls[k] c) D M Ls { s with conns := s.conns.set k c } lv fv qv sv n := by
  have hkc : k < s.conns.length := by rw [← h.len]; exact hk
  have hL := h.line k hk hkc
  have ho := lineSet_only w Ls[k] c
  refine ⟨h.box.keepT (TSame.only ho hL (by decide)), by simpa using h.len, fun i hi hi2 => ?_, h.nd, h.lrow.keepT (TSame.only ho hL (by decide)), h.free.keepT (TSame.only ho hL (by decide)), h.fok, h.queue.keepT (TSame.only ho hL (by decide)), h.sent.keepT (TSame.only ho hL (by decide)), h.map.keep (ho.block M h.map.lt (by simp; exact fun e => (h.map.ne hL) e.symm)), h.lows⟩
  have hi2' : i < s.conns.length := by simpa using hi2
  by_cases e : i = k
  · subst e
    simp only [List.getElem_set_self]
    exact lineSet_box hL
  · have hne : Ls[i] ≠ Ls[k] := nodup_ne h.nd hi hk e
    simp only [List.getElem_set_ne (Ne.symm e)]
    exact (h.line i hi hi2').keep (ho.block _ (h.line i hi hi2').lt (by simpa using hne))
theorem Desk.setNext {lo : Nat} {w : World} {D M : Nat} {Ls : List Nat} {s : Ds} {lv fv qv sv : Value} {n : Nat} (h : Desk lo w D M Ls s lv fv qv sv n) (x : Int) :
    Desk lo (w.setCell ⟨D, 1, none⟩ (.int .i64 x)) D M Ls { s with next := x } lv fv qv sv n := by
  have ho : Only [D] w (w.setCell ⟨D, 1, none⟩ (.int .i64 x)) := (Only.refl _ _).setCell (by simp) _
  exact ⟨h.box.set 1 _, h.len, fun i hi h2 => (h.line i hi h2).keepT (TSame.only ho h.box (by decide)), h.nd, h.lrow.keepT (TSame.only ho h.box (by decide)), h.free.keepT (TSame.only ho h.box (by decide)), h.fok, h.queue.keepT (TSame.only ho h.box (by decide)), h.sent.keepT (TSame.only ho h.box (by decide)), h.map.keep (ho.block M h.map.lt (by simp; exact fun e => (h.map.ne h.box) e.symm)), h.lows⟩
theorem Desk.mapSet {lo : Nat} {w w' : World} {D M : Nat} {Ls : List Nat} {s : Ds} {lv fv qv sv : Value} {n m : Nat} (h : Desk lo w D M Ls s lv fv qv sv n) (ho : Only [M] w w') (hm : MapO w' M m) : Desk lo w' D M Ls s lv fv qv sv m :=
  ⟨h.box.keepT (TSame.map ho h.map), h.len, fun i hi h2 => (h.line i hi h2).keepT (TSame.map ho h.map), h.nd, h.lrow.keepT (TSame.map ho h.map), h.free.keepT (TSame.map ho h.map), h.fok, h.queue.keepT (TSame.map ho h.map), h.sent.keepT (TSame.map ho h.map), hm, h.lows⟩
theorem Desk.setSent {lo : Nat} {w w' : World} {D M : Nat} {Ls : List Nat} {s : Ds} {lv fv qv sv sv' : Value} {n : Nat} {x : St} (h : Desk lo w D M Ls s lv fv qv sv n) (ho : Only sv.ownBlock.toList w w') (hf : FB stC 6 48 lo w' sv' (s.sent ++ [x])) :
    Desk lo (w'.setCell ⟨D, 7, none⟩ sv') D M Ls { s with sent := s.sent ++ [x] } lv fv qv sv' n := by
  have hb' : Box w' D 58 #[.int .i64 s.epoch, .int .i64 s.next, .int .i64 s.now, lv, fv, .map (some M), qv, sv] := h.box.keepT (TSame.own h.sent ho (by decide))
  have hm' : MapO w' M n := h.map.keep (ho.block M h.map.lt fun hx => by obtain ⟨cur, hb⟩ := h.sent.box M hx; exact (h.map.ne hb) rfl)
  have o2 : Only [D] w' (w'.setCell ⟨D, 7, none⟩ sv') := (Only.refl _ _).setCell (by simp) _
  exact ⟨hb'.set 7 _, h.len, fun i hi h2 => ((h.line i hi h2).keepT (TSame.own h.sent ho (by decide))).keepT (TSame.only o2 hb' (by decide)), h.nd, (h.lrow.keepT (TSame.own h.sent ho (by decide))).keepT (TSame.only o2 hb' (by decide)), (h.free.keepT (TSame.own h.sent ho (by decide))).keepT (TSame.only o2 hb' (by decide)), h.fok, (h.queue.keepT (TSame.own h.sent ho (by decide))).keepT (TSame.only o2 hb' (by decide)), hf.keepT (TSame.only o2 hb' (by decide)), hm'.keep (o2.block M hm'.lt (by simp; exact fun e => (hm'.ne hb') e.symm)), h.lows⟩
theorem Box.line7 {w : World} {L i : Nat} {c : Cn} (h : Box w L 68 (lnA c i)) :
    (w.cell? ⟨L, 0, none⟩ = some (.bool c.busy) ∧ w.cell? ⟨L, 1, none⟩ = some (.string c.control) ∧ w.cell? ⟨L, 2, none⟩ = some (.int .i64 c.want.client) ∧ w.cell? ⟨L, 3, none⟩ = some (.string c.want.tag) ∧ w.cell? ⟨L, 4, none⟩ = some (.string c.want.query) ∧ w.cell? ⟨L, 5, none⟩ = some (.string c.want.pointer) ∧ w.cell? ⟨L, 6, none⟩ = some (.int .i64 c.due) ∧ w.cell? ⟨L, 7, none⟩ = some (.int .i64 (i : Int))) ∧
      w.frozen? ⟨L, 0, none⟩ = false ∧ w.frozen? ⟨L, 1, none⟩ = false ∧ w.frozen? ⟨L, 2, none⟩ = false ∧ w.frozen? ⟨L, 3, none⟩ = false ∧ w.frozen? ⟨L, 4, none⟩ = false ∧ w.frozen? ⟨L, 5, none⟩ = false ∧ w.frozen? ⟨L, 6, none⟩ = false :=
  ⟨⟨h.cell 0 (by simp [lnA]), h.cell 1 (by simp [lnA]), h.cell 2 (by simp [lnA]), h.cell 3 (by simp [lnA]), h.cell 4 (by simp [lnA]), h.cell 5 (by simp [lnA]), h.cell 6 (by simp [lnA]), h.cell 7 (by simp [lnA])⟩, h.frozen 0, h.frozen 1, h.frozen 2, h.frozen 3, h.frozen 4, h.frozen 5, h.frozen 6⟩
theorem Desk.cells {lo : Nat} {w : World} {D M : Nat} {Ls : List Nat} {s : Ds} {lv fv qv sv : Value} {n : Nat} (h : Desk lo w D M Ls s lv fv qv sv n) :
    (w.cell? ⟨D, 0, none⟩ = some (.int .i64 s.epoch) ∧ w.cell? ⟨D, 1, none⟩ = some (.int .i64 s.next) ∧ w.cell? ⟨D, 2, none⟩ = some (.int .i64 s.now) ∧ w.cell? ⟨D, 3, none⟩ = some lv ∧ w.cell? ⟨D, 4, none⟩ = some fv ∧ w.cell? ⟨D, 5, none⟩ = some (.map (some M)) ∧ w.cell? ⟨D, 6, none⟩ = some qv ∧ w.cell? ⟨D, 7, none⟩ = some sv) ∧ w.frozen? ⟨D, 1, none⟩ = false ∧ w.frozen? ⟨D, 3, none⟩ = false ∧ w.frozen? ⟨D, 4, none⟩ = false ∧ w.frozen? ⟨D, 6, none⟩ = false ∧ w.frozen? ⟨D, 7, none⟩ = false :=
  ⟨⟨h.box.cell 0 (by simp), h.box.cell 1 (by simp), h.box.cell 2 (by simp), h.box.cell 3 (by simp), h.box.cell 4 (by simp), h.box.cell 5 (by simp), h.box.cell 6 (by simp), h.box.cell 7 (by simp)⟩, h.box.frozen 1, h.box.frozen 3, h.box.frozen 4, h.box.frozen 6, h.box.frozen 7⟩

end Go.Proofs.YtfdefjdogmhinaaDoor.Msg

namespace Go.Proofs.YtfdefjdogmhinaaDoor.Msg
open Go.ChangeShapes Go.WideShapes Go.ChangeAt Go.RowKit
set_option linter.unusedVariables false
set_option linter.unusedSimpArgs false

def sendP (s : Ds) (k : Nat) (z : Wn) : Ds := { s with next := s.next + 1, conns := s.conns.set k ⟨true, ctlOf s.epoch s.next, z, s.now + 30⟩, sent := s.sent ++ [⟨(k : Int), ctlOf s.epoch s.next, z⟩] }
/-- all blocks but those of lines, of rows of lines, of desks and of what was sent are as they were -/
def TKeep (w w' : World) : Prop := ∀ e : TypeId, e ≠ 68 → e ≠ 64 → e ≠ 58 → e ≠ 48 → TSame e w w'
theorem TSame.trans {e : TypeId} {a b c : World} (h : TSame e a b) (k : TSame e b c) : TSame e a c := fun d cur hd => (k d cur (hd.keep (h d cur hd))).trans (h d cur hd)
theorem TKeep.trans {a b c : World} (h : TKeep a b) (k : TKeep b c) : TKeep a c := fun e h1 h2 h3 h4 => (h e h1 h2 h3 h4).trans (k e h1 h2 h3 h4)
theorem TKeep.below {w w' : World} (h : Below w.heap.size w w') : TKeep w w' := fun e _ _ _ _ => TSame.below h
theorem TKeep.line {w w' : World} {b : Nat} {cs : Array Value} (h : Only [b] w w') (hb : Box w b 68 cs) : TKeep w w' := fun e h1 _ _ _ => TSame.only h hb (Ne.symm h1)
theorem TKeep.desk {w w' : World} {b : Nat} {cs : Array Value} (h : Only [b] w w') (hb : Box w b 58 cs) : TKeep w w' := fun e _ _ h3 _ => TSame.only h hb (Ne.symm h3)
theorem TKeep.map {w w' : World} {M n : Nat} (h : Only [M] w w') (hb : MapO w M n) : TKeep w w' := fun e _ _ _ _ => TSame.map h hb
theorem TKeep.sent {α : Type} {C : α → List Value} {c base : Nat} {w w' : World} {v : Value} {xs : List α} (h : FB C c 48 base w v xs) (ho : Only v.ownBlock.toList w w') : TKeep w w' := fun e _ _ _ h4 => TSame.own h ho (Ne.symm h4)
theorem TKeep.ptrs {α : Type} {C : α → List Value} {c base : Nat} {w w' : World} {v : Value} {xs : List α} (h : FB C c 64 base w v xs) (ho : Only v.ownBlock.toList w w') : TKeep w w' := fun e _ h2 _ _ => TSame.own h ho (Ne.symm h2)
/-- a slice lies below -/
def QB (v : Value) (hi : Nat) : Prop := ∀ a n c, v = .slice (some a) n c → a.block < hi

/-- what is asked of the sending of one want -/
def SendOk : Prop := ∀ {lo : Nat} {w : World} {D M : Nat} {Ls : List Nat} {s : Ds} {lv fv qv sv : Value} {n : Nat} (h : Desk lo w D M Ls s lv fv qv sv n) (k : Nat) (z : Wn) (hk : k < Ls.length) (hlo : lo ≤ w.heap.size) (hI : Ito lo w)
    (he0 : 0 ≤ s.epoch) (he1 : s.epoch ≤ 1000000) (hn0 : 0 ≤ s.next) (hn1 : s.next ≤ 2000000) (hw0 : 0 ≤ s.now) (hw1 : s.now ≤ 900000000) (hsl : s.sent.length ≤ 1000) (hnn : n ≤ 1000) (hk4 : Ls.length ≤ 100),
    Calls Tryd.prog 43 #[.pointer (some ⟨D, 0, none⟩), .pointer (some ⟨Ls[k], 0, none⟩), wnV z] w fun en w' => en = .returned (.tuple #[]) ∧ ∃ sv', Desk lo w' D M Ls (sendP s k z) lv fv qv sv' (n + 1) ∧ Below lo w w' ∧ TKeep w w'
def serveD : Nat → Ds → Ds
  | 0, s => s
  | f + 1, s => match s.free, s.queue with
    | k :: fs, z :: qs => serveD f (sendP { s with free := fs, queue := qs } k z)
    | _, _ => s
theorem serveD_nofree (f : Nat) (s : Ds) (h : s.free = []) : serveD f s = s := by
  cases f with
  | zero => rfl
  | succ f => simp only [serveD, h]
theorem serveD_noqueue (f : Nat) (s : Ds) (h : s.queue = []) : serveD f s = s := by
  cases f with
  | zero => rfl
  | succ f =>
    simp only [serveD, h]
    split <;> simp_all
theorem serveD_step (f : Nat) (s : Ds) {k : Nat} {fs : List Nat} {z : Wn} {qs : List Wn} (h1 : s.free = k :: fs) (h2 : s.queue = z :: qs) : serveD (f + 1) s = serveD f (sendP { s with free := fs, queue := qs } k z) := by
  simp only [serveD, h1, h2]
/-- the first of a part of a row, and the rest -/
theorem FV.head {α : Type} {C : α → List Value} {c : Nat} {e : TypeId} {lo : Nat} {w : World} {v : Value} {x : α} {xs : List α} (h : FV C c e lo w v (x :: xs)) : ∃ b off cap cur, v = .slice (some ⟨b, off, none⟩) (xs.length + 1) cap ∧ lo ≤ b ∧ Box w b e cur ∧ xs.length + 1 ≤ cap ∧ ∀ j (hj : j < (C x).length), w.cell? ⟨b, off + j, none⟩ = some (C x)[j] := by
  rcases h with ⟨_, _, _, h⟩ | ⟨b, off, cap, cur, rfl, hlo, hb, hc, hx⟩
  · cases h
  · refine ⟨b, off, cap, cur, rfl, hlo, hb, by simpa using hc, fun j hj => ?_⟩
    have := hx 0 (by simp) j (by simpa using hj)
    simp only [Nat.zero_mul, Nat.add_zero, List.getElem_cons_zero] at this
    unfold Box at hb
    simp only [World.cell?, hb]
    exact this
theorem FV.rest {α : Type} {C : α → List Value} {c : Nat} {e : TypeId} {lo : Nat} {w : World} {b off cap : Nat} {x : α} {xs : List α} (h : FV C c e lo w (.slice (some ⟨b, off, none⟩) (xs.length + 1) cap) (x :: xs)) :
    FV C c e lo w (.slice (if cap = 1 then some ⟨b, off, none⟩ else some ⟨b, off + c, none⟩) xs.length (cap - 1)) xs := by
  rcases h with ⟨_, _, _, h⟩ | ⟨b', off', cap', cur, e1, hlo, hb, hc, hx⟩
  · cases h
  · injection e1 with e2 _ e3
    injection e2 with e2
    injection e2 with e4 e5 _
    subst e4 e5 e3
    by_cases h1 : cap = 1
    · have : xs = [] := List.length_eq_zero_iff.1 (by simp at hc; omega)
      subst this
      exact .inl ⟨_, _, rfl, rfl⟩
    · rw [if_neg h1]
      refine .inr ⟨b, off + c, cap - 1, cur, rfl, hlo, hb, by simp at hc; omega, fun i hi j hj => ?_⟩
      have := hx (i + 1) (by simp; omega) j (by simpa using hj)
      simp only [List.getElem_cons_succ] at this
      rw [show off + c + i * c + j = off + (i + 1) * c + j by rw [Nat.add_mul]; omega]
      exact this
theorem sliceP (b o n c : Nat) (w : World) : (Instr.slice 55 (.slice (some ⟨b, o, none⟩) (n + 1) c) (some (.int .i64 1)) none none).run Tryd.prog w = .ok (.slice (if c = 1 then some ⟨b, o, none⟩ else some ⟨b, o + 1, none⟩) n (c - 1)) w := by
  have h1 : (1 : Int) ≤ (n : Int) + 1 := by omega
  simp [go_sem, Tryd.underlying55, h1]
theorem Desk.pop {lo : Nat} {w : World} {D M : Nat} {Ls : List Nat} {s : Ds} {lv fv qv sv fv' qv' : Value} {n : Nat} {fs : List Nat} {qs : List Wn} (h : Desk lo w D M Ls s lv fv qv sv n)
    (h1 : FV ptrC 1 64 lo w fv' (fs.map fun i => Ls.getD i 0)) (h2 : FV wnC 4 33 lo w qv' qs) (h3 : ∀ i ∈ fs, i < Ls.length) :
    Desk lo ((w.setCell ⟨D, 4, none⟩ fv').setCell ⟨D, 6, none⟩ qv') D M Ls { s with free := fs, queue := qs } lv fv' qv' sv n := by
  have ho : Only [D] w ((w.setCell ⟨D, 4, none⟩ fv').setCell ⟨D, 6, none⟩ qv') := ((Only.refl _ _).setCell (by simp) _).setCell (by simp) _
  exact ⟨(h.box.set 4 _).set 6 _, h.len, fun i hi h2' => (h.line i hi h2').keepT (TSame.only ho h.box (by decide)), h.nd, h.lrow.keepT (TSame.only ho h.box (by decide)), h1.keepT (TSame.only ho h.box (by decide)), h3, h2.keepT (TSame.only ho h.box (by decide)), h.sent.keepT (TSame.only ho h.box (by decide)), h.map.keep (ho.block M h.map.lt (by simp; exact fun e => (h.map.ne h.box) e.symm)), h.lows⟩

/-- the loop's state -/
def ServD (lo : Nat) (w : World) (D M : Nat) (Ls : List Nat) (lv qv0 : Value) (n0 : Nat) (s0 R : Ds) (q : Nat) (wx : World) (s : Ds) (fv qv sv : Value) (n : Nat) : Prop :=
  (s.queue.length = q ∧ R = serveD q s ∧ s.epoch = s0.epoch ∧ s.now = s0.now ∧ s0.next ≤ s.next ∧ s.next + q ≤ s0.next + s0.queue.length ∧ s.sent.length + q ≤ s0.sent.length + s0.queue.length ∧ n + q ≤ n0 + s0.queue.length) ∧ Desk lo wx D M Ls s lv fv qv sv n ∧ Below lo w wx ∧ TKeep w wx ∧ ∀ hi, QB qv0 hi → QB qv hi

set_option maxRecDepth 100000 in
set_option maxHeartbeats 4000000 in
theorem serveI_any (HSEND : SendOk) {lo : Nat} {w : World} {D M : Nat} {Ls : List Nat} {s : Ds} {lv fv qv0 sv : Value} {n : Nat} (h : Desk lo w D M Ls s lv fv qv0 sv n) (hlo : lo ≤ w.heap.size) (hI : Ito lo w)
    (he0 : 0 ≤ s.epoch) (he1 : s.epoch ≤ 1000000) (hn0 : 0 ≤ s.next) (hn1 : s.next ≤ 1000000) (hw0 : 0 ≤ s.now) (hw1 : s.now ≤ 900000000) (hsl : s.sent.length ≤ 100) (hnn : n ≤ 100) (hk4 : Ls.length ≤ 100) (hql : s.queue.length ≤ 100) :
    Calls Tryd.prog 23 #[.pointer (some ⟨D, 0, none⟩)] w fun en w' => en = .returned (.tuple #[]) ∧ ∃ fv' qv' sv' n', Desk lo w' D M Ls (serveD s.queue.length s) lv fv' qv' sv' n' ∧ Below lo w w' ∧ TKeep w w' ∧ ∀ hi, QB qv0 hi → QB qv' hi := by
  obtain ⟨R, hR⟩ : ∃ R, serveD s.queue.length s = R := ⟨_, rfl⟩
  have HST : Hid (ServD lo w D M Ls lv qv0 n s R s.queue.length w s fv qv0 sv n) := ⟨⟨rfl, hR.symm, rfl, rfl, Int.le_refl _, Int.le_refl _, Nat.le_refl _, Nat.le_refl _⟩, h, Below.refl _ _, TKeep.below (Below.refl _ _), fun _ h => h⟩
  rw [hR]
  clear h hR
  go_enter Tryd.func23, Tryd.ntmps23
  go_wp2_with fail
  go_loopg [4] s.queue.length (fun q _ wx => ∃ s' fv qv sv n', ServD lo w D M Ls lv qv0 n s R q wx s' fv qv sv n')
  case atStart => exact ⟨s, fv, qv0, sv, n, HST.out⟩
  case round =>
    obtain ⟨s', fv, qv, sv, n', ⟨rfl, hRe, h1, h2, h3, h4, h5, h6⟩, hd, hb, htk, hqb⟩ := hrel
    have HTK := hide htk
    have HQB := hide hqb
    clear htk hqb
    obtain ⟨⟨d0, d1, d2, d3, d4, d5, d6, d7⟩, df1, df3, df4, df6, df7⟩ := hd.cells
    cases hfr : s'.free with
    | nil =>
      have HF : Hid (R = s') := hRe.trans (serveD_nofree _ _ hfr)
      obtain ⟨a, c, hf⟩ := hd.free.form
      rw [hfr] at hf
      simp only [List.map_nil, List.length_nil] at hf
      subst hf
      have HD := hide hd
      have HB := hide hb
      clear hRe hd hb h1 h2 h3 h4 h5 h6 hfr
      go_wp2_with fail
      refine bodyPost_end (v := .tuple #[]) (by simp [results, Tryd.results23, go_sem]) rfl ?_
      rw [HF.out]
      exact ⟨rfl, _, _, _, _, HD.out, HB.out, HTK.out, HQB.out⟩
    | cons k fs =>
      cases hq : s'.queue with
      | nil =>
        have HF : Hid (R = s') := hRe.trans (serveD_noqueue _ _ hq)
        obtain ⟨a, c, hf⟩ := hd.queue.form
        rw [hq] at hf
        simp only [List.length_nil] at hf
        subst hf
        obtain ⟨a2, c2, hf2⟩ := hd.free.form
        rw [hfr] at hf2
        simp only [List.map_cons, List.length_cons, List.length_map] at hf2
        subst hf2
        have HD := hide hd
        have HB := hide hb
        clear hRe hd hb h1 h2 h3 h4 h5 h6 hfr hq
        go_wp2_with fail
        refine bodyPost_end (v := .tuple #[]) (by simp [results, Tryd.results23, go_sem]) rfl ?_
        rw [HF.out]
        exact ⟨rfl, _, _, _, _, HD.out, HB.out, HTK.out, HQB.out⟩
      | cons z qs =>
        have HSTEP := hide (serveD_step qs.length s' hfr hq)
        have hkl : k < Ls.length := hd.fok k (by rw [hfr]; simp)
        have hfk := hd.free
        rw [hfr] at hfk
        simp only [List.map_cons] at hfk
        have hLk : Ls.getD k 0 = Ls[k] := by rw [List.getD_eq_getElem?_getD, List.getElem?_eq_getElem hkl]; rfl
        rw [hLk] at hfk
        obtain ⟨fb, fo, fc, fcur, hfv, hflo, hfbox, hfcap, hfcell⟩ := hfk.head
        rw [List.length_map] at hfv hfcap
        have hqk := hd.queue
        rw [hq] at hqk
        obtain ⟨qb, qo, qc, qcur, hqv, hqlo, hqbox, hqcap, hqcell⟩ := hqk.head
        subst hfv hqv
        obtain ⟨L, hL⟩ : ∃ L, Ls[k] = L := ⟨_, rfl⟩
        have cP : wr.cell? ⟨fb, fo, none⟩ = some (.pointer (some ⟨L, 0, none⟩)) := by have := hfcell 0 (by simp [ptrC]); rw [← hL]; exact this
        have cz0 : wr.cell? ⟨qb, qo, none⟩ = some (.int .i64 z.client) := hqcell 0 (by simp [wnC])
        have cz1 : wr.cell? ⟨qb, qo + 1, none⟩ = some (.string z.tag) := hqcell 1 (by simp [wnC])
        have cz2 : wr.cell? ⟨qb, qo + 2, none⟩ = some (.string z.query) := hqcell 2 (by simp [wnC])
        have cz3 : wr.cell? ⟨qb, qo + 3, none⟩ = some (.string z.pointer) := hqcell 3 (by simp [wnC])
        have S1 : Hid (∀ X, Below wr.heap.size wr X → X.cell? ⟨D, 4, none⟩ = some (.slice (some ⟨fb, fo, none⟩) (fs.length + 1) fc) ∧ X.cell? ⟨D, 6, none⟩ = some (.slice (some ⟨qb, qo, none⟩) (qs.length + 1) qc) ∧ X.cell? ⟨fb, fo, none⟩ = some (.pointer (some ⟨L, 0, none⟩)) ∧ X.cell? ⟨qb, qo, none⟩ = some (.int .i64 z.client) ∧ X.cell? ⟨qb, qo + 1, none⟩ = some (.string z.tag) ∧ X.cell? ⟨qb, qo + 2, none⟩ = some (.string z.query) ∧ X.cell? ⟨qb, qo + 3, none⟩ = some (.string z.pointer)) := fun X hX =>
          ⟨(hX.cell (p := ⟨D, 4, none⟩) hd.box.lt).trans d4, (hX.cell (p := ⟨D, 6, none⟩) hd.box.lt).trans d6, (hX.cell (p := ⟨fb, fo, none⟩) hfbox.lt).trans cP, (hX.cell (p := ⟨qb, qo, none⟩) hqbox.lt).trans cz0, (hX.cell (p := ⟨qb, qo + 1, none⟩) hqbox.lt).trans cz1, (hX.cell (p := ⟨qb, qo + 2, none⟩) hqbox.lt).trans cz2, (hX.cell (p := ⟨qb, qo + 3, none⟩) hqbox.lt).trans cz3⟩
        have hk0 : Below wr.heap.size wr wr.drew := (Below.refl _ _).drew
        obtain ⟨D1, hwd⟩ : ∃ D1, wr.drew = D1 := ⟨_, rfl⟩
        have hk1 : Below wr.heap.size wr D1 := by rw [← hwd]; exact hk0
        have hk2 : ∀ o, Below wr.heap.size wr (D1.alloc o) := fun o => hk1.alloc hk1.size o
        have HD := hide hd
        have HFK := hide hfk
        have HQK := hide hqk
        have HB := hide hb
        have HAR : Hid (s'.epoch = s.epoch ∧ s'.now = s.now ∧ s.next ≤ s'.next ∧ s'.next + s'.queue.length ≤ s.next + s.queue.length ∧ s'.sent.length + s'.queue.length ≤ s.sent.length + s.queue.length ∧ n' + s'.queue.length ≤ n + s.queue.length) := ⟨h1, h2, h3, h4, h5, h6⟩
        have HRE := hide hRe
        have HFR := hide hfr
        have HQ := hide hq
        clear hd hfk hqk hb h1 h2 h3 h4 h5 h6 hRe hfr hq hfcell hqcell hfbox hqbox cP cz0 cz1 cz2 cz3
        go_wp2_with fail
        go_region_held3 (fun X => X.cell? ⟨D, 4, none⟩ = some (.slice (some ⟨fb, fo, none⟩) (fs.length + 1) fc) ∧ X.cell? ⟨D, 6, none⟩ = some (.slice (some ⟨qb, qo, none⟩) (qs.length + 1) qc) ∧ X.cell? ⟨fb, fo, none⟩ = some (.pointer (some ⟨L, 0, none⟩)) ∧ X.cell? ⟨qb, qo, none⟩ = some (.int .i64 z.client) ∧ X.cell? ⟨qb, qo + 1, none⟩ = some (.string z.tag) ∧ X.cell? ⟨qb, qo + 2, none⟩ = some (.string z.query) ∧ X.cell? ⟨qb, qo + 3, none⟩ = some (.string z.pointer))
          (first | with_reducible exact S1.out _ hk0 | with_reducible exact S1.out _ hk1 | with_reducible exact S1.out _ (hk2 _))
          (first | fail)
        obtain ⟨W1, hW1⟩ : ∃ W1, D1.alloc (Obj.cells #[.int .i64 z.client, .string z.tag, .string z.query, .string z.pointer] 33) = W1 := ⟨_, rfl⟩
        rw [hW1]
        obtain ⟨D2, hwd2⟩ : ∃ D2, W1.drew = D2 := ⟨_, rfl⟩
        have hb2 : Below wr.heap.size wr D2 := by rw [← hwd2, ← hW1]; exact (hk2 _).drew
        have hbx2 : Box D2 D1.heap.size 33 #[.int .i64 z.client, .string z.tag, .string z.query, .string z.pointer] := by rw [← hwd2, ← hW1]; exact Box.new _ _ _
        have hd2 := HD.out.below hb2
        obtain ⟨⟨d0, d1, d2, d3, d4, d5, d6, d7⟩, df1, df3, df4, df6, df7⟩ := hd2.cells
        have hslP := sliceP fb fo fs.length fc
        have hslW := slice1 qb qo qs.length qc
        have hrF := (HFK.out.keepT (TSame.below hb2))
        have hrQ := (HQK.out.keepT (TSame.below hb2))
        obtain ⟨A1, hA1⟩ : ∃ A : Option Addr, (if fc = 1 then some (⟨fb, fo, none⟩ : Addr) else some ⟨fb, fo + 1, none⟩) = A := ⟨_, rfl⟩
        obtain ⟨A2, hA2⟩ : ∃ A : Option Addr, (if qc = 1 then some (⟨qb, qo, none⟩ : Addr) else some ⟨qb, qo + 4, none⟩) = A := ⟨_, rfl⟩
        have hrF' : FV ptrC 1 64 lo D2 (.slice A1 fs.length (fc - 1)) (fs.map fun i => Ls.getD i 0) := by
          have := FV.rest (xs := fs.map fun i => Ls.getD i 0) (by rw [List.length_map]; exact hrF)
          rw [List.length_map, hA1] at this
          exact this
        have hrQ' : FV wnC 4 33 lo D2 (.slice A2 qs.length (qc - 1)) qs := by
          have := FV.rest hrQ
          rw [hA2] at this
          exact this
        rw [hA1] at hslP
        rw [hA2] at hslW
        obtain ⟨Y, hY⟩ : ∃ Y, (D2.setCell ⟨D, 4, none⟩ (.slice A1 fs.length (fc - 1))).setCell ⟨D, 6, none⟩ (.slice A2 qs.length (qc - 1)) = Y := ⟨_, rfl⟩
        have hdY : Desk lo Y D M Ls { s' with free := fs, queue := qs } lv (.slice A1 fs.length (fc - 1)) (.slice A2 qs.length (qc - 1)) sv n' := by
          rw [← hY]
          exact hd2.pop hrF' hrQ' (fun i hi => HD.out.fok i (by rw [HFR.out]; exact List.mem_cons_of_mem _ hi))
        have hnV : D1.heap.size ≠ D := fun e => (hd2.box.ne hbx2 (by decide)) e.symm
        have hbxY : Box Y D1.heap.size 33 #[.int .i64 z.client, .string z.tag, .string z.query, .string z.pointer] := by
          rw [← hY]
          exact (hbx2.other (a := ⟨D, 4, none⟩) hnV _).other (a := ⟨D, 6, none⟩) hnV _
        have hbY : Below lo w Y := by
          have c1 : Below lo w D2 := HB.out.trans (hb2.mono (by have := HB.out.size; omega))
          rw [← hY]
          exact (c1.setCell (by have := hd2.lows.1; simp; omega) _).setCell (by have := hd2.lows.1; simp; omega) _
        have y0 : Y.cell? ⟨D1.heap.size, 0, none⟩ = some (.int .i64 z.client) := hbxY.cell 0 (by simp)
        have y1 : Y.cell? ⟨D1.heap.size, 1, none⟩ = some (.string z.tag) := hbxY.cell 1 (by simp)
        have y2 : Y.cell? ⟨D1.heap.size, 2, none⟩ = some (.string z.query) := hbxY.cell 2 (by simp)
        have y3 : Y.cell? ⟨D1.heap.size, 3, none⟩ = some (.string z.pointer) := hbxY.cell 3 (by simp)
        obtain ⟨a1, a2, a3, a4, a5, a6⟩ := HAR.out
        have HCALL := hide (HSEND hdY k z hkl (by have := hbY.size; omega) (hI.keep hbY) (by simp only; omega) (by simp only; omega) (by simp only; omega) (by simp only; omega) (by simp only; omega) (by simp only; omega) (by simp only; omega) (by omega) (by omega))
        rw [hL] at HCALL
        unfold wnV at HCALL
        have HBY := hide hbY
        have HTKY : Hid (TKeep w Y) := by
          rw [← hY]
          exact HTK.out.trans ((TKeep.below hb2).trans (TKeep.desk (((Only.refl _ _).setCell (by simp) _).setCell (by simp) _) hd2.box))
        have HQBY : Hid (∀ hi, QB qv0 hi → QB (.slice A2 qs.length (qc - 1)) hi) := fun hi h0 a n c e => by
          have h1 := HQB.out hi h0 _ _ _ rfl
          injection e with e1 _ _
          rw [← hA2] at e1
          split at e1 <;> (injection e1 with e1; rw [← e1]; exact h1)
        clear hrF hrQ hrF' hrQ' hdY hbxY hbY hd2 hbx2 hA1 hA2 a1 a2 a3 a4 a5 a6 hb2
        go_wp2_with fail
        go_region_law (fail)
        all_goals
          try rw [hY]
          go_wp2_with fail
          refine HCALL.out.mono ?_
          rintro en W5 ⟨rfl, sv5, hd5, hb5, htk5⟩
          have HNEXT : Hid (ServD lo w D M Ls lv qv0 n s R qs.length W5 (sendP { s' with free := fs, queue := qs } k z) (.slice A1 fs.length (fc - 1)) (.slice A2 qs.length (qc - 1)) sv5 (n' + 1)) := by
            obtain ⟨a1, a2, a3, a4, a5, a6⟩ := HAR.out
            rw [HQ.out] at a4 a5 a6
            simp only [List.length_cons] at a4 a5 a6
            refine ⟨⟨rfl, ?_, a1, a2, by simp only [sendP]; omega, by simp only [sendP]; omega, by simp only [sendP, List.length_append, List.length_singleton]; omega, by omega⟩, hd5, HBY.out.trans hb5, HTKY.out.trans htk5, HQBY.out⟩
            have := HRE.out
            rw [HQ.out] at this
            simp only [List.length_cons] at this
            rw [this, HSTEP.out]
          clear hd5 hb5
          go_wp2_with fail
          go_roundg qs.length
          case measure => rw [HQ.out]; simp
          case rel => exact ⟨_, _, _, _, _, HNEXT.out⟩
end Go.Proofs.YtfdefjdogmhinaaDoor.Msg
