import Derived.Test.YtfeccdhadgpnkaaDoorAskPurewithPoolOut
import Derived.Test.YtfeccdhadgpnkaaDoorLawKitwithDeskRel
import Derived.Test.YtfeccdhadgpnkaaDoorAskIwithPoolSz
namespace Go.Proofs.YtfeccdhadgpnkaaDoor.Msg
open Go.ChangeShapes Go.WideShapes Go.ChangeAt Go.RowKit
set_option linter.unusedVariables false
set_option linter.unusedSimpArgs false

def expB (now : Int) (c : Cn) : Bool := c.busy && decide (c.due ≤ now)
def expC (now : Int) (c : Cn) : Cn := if expB now c then cn0 else c
def expW (now : Int) (cs : List Cn) : List Wn := (cs.filter (expB now)).map (·.want)
def expGo (now : Int) : Nat → List Cn → List Nat
  | _, [] => []
  | i, c :: cs => if expB now c then i :: expGo now (i + 1) cs else expGo now (i + 1) cs
theorem expGo_snoc (now : Int) : ∀ (i : Nat) (cs : List Cn) (c : Cn), expGo now i (cs ++ [c]) = expGo now i cs ++ (if expB now c then [i + cs.length] else [])
  | i, [], c => by simp [expGo]
  | i, d :: cs, c => by
    simp only [List.cons_append, expGo]
    rw [expGo_snoc now (i + 1) cs c]
    have e : i + 1 + cs.length = i + (d :: cs).length := by simp; omega
    rw [e]
    split <;> simp
theorem expGo_lt (now : Int) : ∀ (i : Nat) (cs : List Cn), ∀ k ∈ expGo now i cs, k < i + cs.length
  | i, [], k, h => by simp [expGo] at h
  | i, c :: cs, k, h => by
    simp only [expGo] at h
    split at h
    · rcases List.mem_cons.1 h with rfl | h
      · simp
      · have := expGo_lt now (i + 1) cs k h; simp; omega
    · have := expGo_lt now (i + 1) cs k h; simp; omega
theorem expGo_len (now : Int) : ∀ (i : Nat) (cs : List Cn), (expGo now i cs).length ≤ cs.length
  | _, [] => by simp [expGo]
  | i, c :: cs => by
    simp only [expGo]
    have := expGo_len now (i + 1) cs
    split <;> simp <;> omega
theorem freeGo_exp (now : Int) : ∀ (i : Nat) (cs : List Cn), (∀ c ∈ cs, c.busy = true) → freeGo i (cs.map (expC now)) = expGo now i cs
  | _, [], _ => rfl
  | i, c :: cs, h => by
    have hc : c.busy = true := h c (by simp)
    have ih := freeGo_exp now (i + 1) cs fun d hd => h d (List.mem_cons_of_mem _ hd)
    simp only [List.map_cons, freeGo, expGo]
    rw [ih]
    unfold expC
    cases hb : expB now c with
    | true => simp [cn0]
    | false => simp [hc]
theorem freeGo_busy : ∀ (i : Nat) (cs : List Cn), (∀ c ∈ cs, c.busy = true) → freeGo i cs = []
  | _, [], _ => rfl
  | i, c :: cs, h => by
    simp only [freeGo]
    rw [h c (by simp), if_pos rfl]
    exact freeGo_busy (i + 1) cs fun d hd => h d (List.mem_cons_of_mem _ hd)
/-- the desk when the first k lines have been looked at -/
def expD (now : Int) (s : Ds) (k : Nat) : Ds := { s with conns := (s.conns.take k).map (expC now) ++ s.conns.drop k, free := s.free ++ expGo now 0 (s.conns.take k) }
theorem expD_zero (now : Int) (s : Ds) : expD now s 0 = s := by simp [expD, expGo]
theorem expD_at (now : Int) (s : Ds) {k : Nat} (hk : k < s.conns.length) : ∃ h : k < (expD now s k).conns.length, (expD now s k).conns[k] = s.conns[k] := by
  have hl : ((s.conns.take k).map (expC now)).length = k := by simp; omega
  have h1 : (expD now s k).conns[k]? = s.conns[k]? := by
    simp only [expD]
    rw [List.getElem?_append_right (by omega), hl, Nat.sub_self, List.getElem?_drop, Nat.add_zero]
  have h2 : k < (expD now s k).conns.length := by simp [expD]; omega
  refine ⟨h2, ?_⟩
  rw [List.getElem?_eq_getElem h2, List.getElem?_eq_getElem hk] at h1
  exact Option.some.inj h1
theorem expD_len (now : Int) (s : Ds) (k : Nat) : (expD now s k).conns.length = s.conns.length := by simp [expD]; omega
theorem take_snoc' (xs : List Cn) (k : Nat) (h : k < xs.length) : xs.take (k + 1) = xs.take k ++ [xs[k]] := by rw [List.take_add_one, List.getElem?_eq_getElem h]; rfl
theorem expD_skip (now : Int) (s : Ds) {k : Nat} (hk : k < s.conns.length) (hb : expB now s.conns[k] = false) : expD now s (k + 1) = expD now s k := by
  have e1 : (s.conns.take (k + 1)).map (expC now) ++ s.conns.drop (k + 1) = (s.conns.take k).map (expC now) ++ s.conns.drop k := by
    rw [take_snoc' _ _ hk, List.map_append, List.append_assoc]
    congr 1
    rw [List.drop_eq_getElem_cons hk]
    simp [expC, hb]
  have e2 : expGo now 0 (s.conns.take (k + 1)) = expGo now 0 (s.conns.take k) := by
    rw [take_snoc' _ _ hk, expGo_snoc, hb]
    simp
  unfold expD
  rw [e1, e2]
theorem expD_hit (now : Int) (s : Ds) {k : Nat} (hk : k < s.conns.length) (hb : expB now s.conns[k] = true) : expD now s (k + 1) = relD (expD now s k) k := by
  have hl : ((s.conns.take k).map (expC now)).length = k := by simp; omega
  have e1 : (s.conns.take (k + 1)).map (expC now) ++ s.conns.drop (k + 1) = ((s.conns.take k).map (expC now) ++ s.conns.drop k).set k cn0 := by
    rw [take_snoc' _ _ hk, List.map_append, List.append_assoc, List.set_append_right _ _ (by omega)]
    congr 1
    rw [List.drop_eq_getElem_cons hk, hl, Nat.sub_self]
    simp only [expC, hb, if_true, List.cons_append, List.nil_append, List.map_cons, List.map_nil, List.set_cons_zero]
  have e2 : expGo now 0 (s.conns.take (k + 1)) = expGo now 0 (s.conns.take k) ++ [k] := by
    rw [take_snoc' _ _ hk, expGo_snoc, hb]
    simp
    omega
  unfold expD relD
  simp only
  rw [e1, e2, List.append_assoc]
theorem expW_skip (now : Int) (cs : List Cn) {k : Nat} (hk : k < cs.length) (hb : expB now cs[k] = false) : expW now (cs.take (k + 1)) = expW now (cs.take k) := by
  unfold expW
  rw [take_snoc' _ _ hk, List.filter_append]
  simp [hb]
theorem expW_hit (now : Int) (cs : List Cn) {k : Nat} (hk : k < cs.length) (hb : expB now cs[k] = true) : expW now (cs.take (k + 1)) = expW now (cs.take k) ++ [cs[k].want] := by
  unfold expW
  rw [take_snoc' _ _ hk, List.filter_append]
  simp [hb]
theorem expW_len (now : Int) (cs : List Cn) : (expW now cs).length ≤ cs.length := by unfold expW; rw [List.length_map]; exact List.length_filter_le _ _
theorem expD_all (now : Int) (s : Ds) : (expD now s s.conns.length).conns = s.conns.map (expC now) ∧ (expD now s s.conns.length).free = s.free ++ expGo now 0 s.conns := by simp [expD]
theorem expD_free_len (now : Int) (s : Ds) (k : Nat) : (expD now s k).free.length ≤ s.free.length + s.conns.length := by
  have := expGo_len now 0 (s.conns.take k)
  simp only [expD, List.length_append]
  simp only [List.length_take] at this
  omega
def expP (x : Pl) (now : Int) : Pl × List St × List Wn :=
  if okPl x = true ∧ nowB now = true then ((serveA now ⟨x.epoch, x.next, x.conns.map (expC now), x.queue⟩).1, (serveA now ⟨x.epoch, x.next, x.conns.map (expC now), x.queue⟩).2, expW now x.conns)
  else (pl0, [], [])
/-- where wants wait, every line is busy -/
theorem okPl_busy {x : Pl} (h : okPl x = true) (hq : x.queue ≠ []) : ∀ c ∈ x.conns, c.busy = true := fun c hc => by
  obtain ⟨i, hi, e⟩ := List.getElem_of_mem hc
  cases hb : c.busy with
  | true => rfl
  | false =>
    have : okPl x = false := okPl_free hi (by rw [e]; exact hb) (by rcases hx : x.queue with _ | ⟨a, b⟩; exact absurd hx hq; simp)
    rw [this] at h
    cases h
theorem expD_serves {x : Pl} (now : Int) (h : okPl x = true) : (expD now ⟨x.epoch, x.next, now, x.conns, freeIdx x.conns, x.queue, []⟩ x.conns.length).free = freeIdx (expD now ⟨x.epoch, x.next, now, x.conns, freeIdx x.conns, x.queue, []⟩ x.conns.length).conns ∨ (expD now ⟨x.epoch, x.next, now, x.conns, freeIdx x.conns, x.queue, []⟩ x.conns.length).queue = [] := by
  by_cases hq : x.queue = []
  · exact .inr hq
  · left
    obtain ⟨e1, e2⟩ := expD_all now ⟨x.epoch, x.next, now, x.conns, freeIdx x.conns, x.queue, []⟩
    simp only at e1 e2
    rw [e1, e2]
    unfold freeIdx
    rw [freeGo_busy 0 x.conns (okPl_busy h hq), freeGo_exp now 0 x.conns (okPl_busy h hq)]
    rfl
theorem expC_Z (now : Int) {c : Cn} (h : cnZ c) : cnZ (expC now c) := by unfold expC; split; exact cn0Z; exact h
theorem expD_Z (now : Int) {s : Ds} (k : Nat) (h : DsZ s) : DsZ (expD now s k) := by
  refine ⟨fun c hc => ?_, h.2.1, h.2.2⟩
  simp only [expD] at hc
  rcases List.mem_append.1 hc with h1 | h1
  · obtain ⟨d, hd, rfl⟩ := List.mem_map.1 h1
    exact expC_Z now (h.1 d (List.mem_of_mem_take hd))
  · exact h.1 c (List.mem_of_mem_drop h1)
theorem expW_Z (now : Int) {cs : List Cn} (h : ∀ c ∈ cs, cnZ c) : ∀ q ∈ expW now cs, wnZ q := fun q hq => by
  unfold expW at hq
  obtain ⟨c, hc, rfl⟩ := List.mem_map.1 hq
  exact (h c (List.mem_filter.1 hc).1).2
end Go.Proofs.YtfeccdhadgpnkaaDoor.Msg

namespace Go.Proofs.YtfeccdhadgpnkaaDoor.Msg
open Go.ChangeShapes Go.WideShapes Go.ChangeAt Go.RowKit
set_option linter.unusedVariables false
set_option linter.unusedSimpArgs false

theorem FB.qb {α : Type} {C : α → List Value} {c : Nat} {e : TypeId} {base : Nat} {w : World} {v : Value} {xs : List α} (h : FB C c e base w v xs) : QB v w.heap.size := fun a n cc ev => by
  have h' := h
  obtain ⟨_, ⟨rfl, h0⟩ | ⟨g, cap, cur, rfl, hg, hs, _⟩⟩ := h
  · cases ev
  · injection ev with e1 _ _
    injection e1 with e1
    rw [← e1]
    exact (h'.own g (by simp [Value.ownBlock])).2
/-- a desk stays where a row of wants of later blocks is written -/
theorem DeskN.keepO {lo B : Nat} {w w' : World} {D M : Nat} {Ls : List Nat} {s : Ds} {lv fv qv sv v : Value} {n : Nat} {xs : List Wn} (h : DeskN lo w D M Ls s lv fv qv sv n) (hv : FB wnC 4 38 B w v xs) (ho : Only v.ownBlock.toList w w') (hq : QB qv B) : DeskN lo w' D M Ls s lv fv qv sv n := by
  have hqk : FB wnC 4 38 lo w' qv s.queue := h.fqueue.keep fun d hd => ho.block d (h.fqueue.own d hd).2 fun hd2 => by
    have h1 := (hv.own d hd2).1
    have h2 : d < B := by
      obtain ⟨_, ⟨e0, h0⟩ | ⟨g, cap, cur, e0, hg, hs, _⟩⟩ := h.fqueue
      · rw [e0] at hd; simp [Value.ownBlock] at hd
      · rw [e0] at hd; simp [Value.ownBlock] at hd; subst hd; exact hq _ _ _ e0
    omega
  exact ⟨h.desk.keepQ (TSame.own hv ho (by decide)) (TSame.own hv ho (by decide)) (TSame.own hv ho (by decide)) (FV.of_own wnC_len hqk (Nat.le_refl _)) (TSame.own hv ho (by decide)) (ho.block M h.desk.map.lt fun hx => by obtain ⟨cur, hb⟩ := hv.box M hx; exact (h.desk.map.ne hb) rfl), h.ffree.keepT (TSame.own hv ho (by decide)), h.sep, hqk⟩
def ExpI (x : Pl) (now : Int) (w : World) (en : Ending) (w' : World) : Prop :=
  ∃ cv qv sv lv b1 b2 b3 b4, en = .returned (.tuple #[plV (expP x now).1 cv qv, sv, lv]) ∧ PlO w.heap.size w' (expP x now).1 cv qv b1 b2 ∧ FO stC 6 w' sv (expP x now).2.1 b3 ∧ (∀ t ∈ (expP x now).2.1, stZ t) ∧ (∀ d ∈ b3, w.heap.size ≤ d ∧ d ∉ b1 ∧ d ∉ b2) ∧ FO wnC 4 w' lv (expP x now).2.2 b4 ∧ (∀ t ∈ (expP x now).2.2, wnZ t) ∧ (∀ d ∈ b4, w.heap.size ≤ d ∧ d ∉ b1 ∧ d ∉ b2 ∧ d ∉ b3) ∧ Below w.heap.size w w'

/-- the loop's state -/
def ExpL (lo : Nat) (w1 W0 : World) (D M : Nat) (Ls : List Nat) (now : Int) (s : Ds) (lv qv sv : Value) (n k : Nat) (v : Value) (wx : World) : Prop :=
  (∃ fv, DeskN lo wx D M Ls (expD now s k) lv fv qv sv n) ∧ FB wnC 4 38 W0.heap.size wx v (expW now (s.conns.take k)) ∧ Below lo w1 wx ∧ W0.heap.size ≤ wx.heap.size

set_option maxRecDepth 100000 in
set_option maxHeartbeats 8000000 in
theorem expI_any (x : Pl) (cv qv : Value) (now : Int) (w : World) {lo : Nat} (hp : PlAt lo w x cv qv) (hI : Ito w.heap.size w) :
    Calls Tryd.prog 23 #[plV x cv qv, .int .i64 now] w (ExpI x now w) := by
  obtain ⟨a1, c1, hf1, _⟩ := hp.1.form
  obtain ⟨a2, c2, hf2, _⟩ := hp.2.form
  subst hf1 hf2
  have HZC : Hid (∀ i (h : i < x.conns.length), cnZ x.conns[i]) := fun i h => by obtain ⟨_, _, _, _, _, hz⟩ := at_place hp.1 h; exact hz
  have HZQ : Hid (∀ i (h : i < x.queue.length), wnZ x.queue[i]) := fun i h => by obtain ⟨_, _, _, _, _, hz⟩ := at_place hp.2 h; exact hz
  have HOF := hide (fun W (h : PlAt lo W x (.slice a1 x.conns.length c1) (.slice a2 x.queue.length c2)) => deskOf_any x _ _ now W h)
  unfold plV at HOF
  show Calls Tryd.prog 23 #[.agg #[.int .i64 x.epoch, .int .i64 x.next, .slice a1 x.conns.length c1, .slice a2 x.queue.length c2], .int .i64 now] w _
  obtain ⟨w1, hw1⟩ : ∃ w1, (w.alloc (Obj.cells #[.int .i64 x.epoch, .int .i64 x.next, .slice a1 x.conns.length c1, .slice a2 x.queue.length c2] 33)).alloc (Obj.cells #[.int .i64 0, .int .i64 0, .slice none 0 0, .slice none 0 0] 33) = w1 := ⟨_, rfl⟩
  have HB1 : Hid (Below w.heap.size w w1) := by rw [← hw1]; exact ((Below.refl w.heap.size w).alloc (Nat.le_refl _) _).alloc (by simp) _
  have HXP : Hid (Box w1 w.heap.size 33 #[.int .i64 x.epoch, .int .i64 x.next, .slice a1 x.conns.length c1, .slice a2 x.queue.length c2]) := by rw [← hw1]; exact (Box.new w _ _).alloc _
  have HXR : Hid (Box w1 (w.heap.size + 1) 33 #[.int .i64 0, .int .i64 0, .slice none 0 0, .slice none 0 0]) := by
    have := Box.new (w.alloc (Obj.cells #[.int .i64 x.epoch, .int .i64 x.next, .slice a1 x.conns.length c1, .slice a2 x.queue.length c2] 33)) 33 #[.int .i64 0, .int .i64 0, .slice none 0 0, .slice none 0 0]
    rw [hw1, Deep.nblk_alloc] at this
    exact this
  have HPL := hide (hp.below HB1.out)
  have HI1 := hide (hI.up HB1.out)
  have KS : Hid (∀ W, Below w1.heap.size w1 W → (W.cell? ⟨w.heap.size, 0, none⟩ = some (.int .i64 x.epoch) ∧ W.cell? ⟨w.heap.size, 1, none⟩ = some (.int .i64 x.next) ∧ W.cell? ⟨w.heap.size, 2, none⟩ = some (.slice a1 x.conns.length c1) ∧ W.cell? ⟨w.heap.size, 3, none⟩ = some (.slice a2 x.queue.length c2)) ∧ ((W.cell? ⟨w.heap.size + 1, 0, none⟩ = some (.int .i64 0) ∧ W.cell? ⟨w.heap.size + 1, 1, none⟩ = some (.int .i64 0) ∧ W.cell? ⟨w.heap.size + 1, 2, none⟩ = some (.slice none 0 0) ∧ W.cell? ⟨w.heap.size + 1, 3, none⟩ = some (.slice none 0 0)) ∧ W.frozen? ⟨w.heap.size + 1, 0, none⟩ = false ∧ W.frozen? ⟨w.heap.size + 1, 1, none⟩ = false ∧ W.frozen? ⟨w.heap.size + 1, 2, none⟩ = false ∧ W.frozen? ⟨w.heap.size + 1, 3, none⟩ = false) ∧ w.heap.size + 1 < W.heap.size) := fun W hW =>
    ⟨(HXP.out.below hW).pool.1, (HXR.out.below hW).pool, (HXR.out.below hW).lt⟩
  have HB2lt := hide HXR.out.lt
  clear hp hI
  obtain ⟨⟨p0, p1, p2, p3⟩, ⟨⟨r0, r1, r2, r3⟩, f0, f1, f2, f3⟩, hz9⟩ := KS.out w1 (Below.refl _ _)
  by_cases hok : okPl x = true ∧ nowB now = true
  · obtain ⟨g1, g2, g3, g4, g5, g6, g7⟩ := okPl_head_of hok.1
    obtain ⟨g8, g9⟩ := nowB_of hok.2
    obtain ⟨s0, hs0⟩ : ∃ s0 : Ds, (⟨x.epoch, x.next, now, x.conns, freeIdx x.conns, x.queue, []⟩ : Ds) = s0 := ⟨_, rfl⟩
    have hEl : (expD now s0 x.conns.length).queue.length = x.queue.length := by rw [← hs0]; rfl
    obtain ⟨R, hR⟩ : ∃ R, serveD x.queue.length (expD now s0 x.conns.length) = R := ⟨_, rfl⟩
    have HAP : Hid (expP x now = (⟨R.epoch, R.next, R.conns, R.queue⟩, R.sent, expW now x.conns)) := by
      have hs := served (expD now s0 x.conns.length) (by have := expD_serves now hok.1; rw [hs0] at this; exact this) (by rw [← hs0]; rfl)
      rw [hEl, hR] at hs
      have e2 : serveA now ⟨x.epoch, x.next, x.conns.map (expC now), x.queue⟩ = serveA (expD now s0 x.conns.length).now ⟨(expD now s0 x.conns.length).epoch, (expD now s0 x.conns.length).next, (expD now s0 x.conns.length).conns, (expD now s0 x.conns.length).queue⟩ := by
        rw [← hs0, (expD_all now ⟨x.epoch, x.next, now, x.conns, freeIdx x.conns, x.queue, []⟩).1]
        rfl
      unfold expP
      rw [if_pos hok, e2, hs]
      exact rfl
    have hDZ0 : DsZ s0 := by rw [← hs0]; exact ⟨all_mem HZC.out, all_mem HZQ.out, by simp⟩
    have HZR := hide (serveD_Z x.queue.length (expD now s0 x.conns.length) (by rw [← hs0]; simp only [expD]; omega) (by rw [← hs0]; simp only [expD]; omega) (expD_Z now _ hDZ0))
    rw [hR] at HZR
    have HZL : Hid (∀ t ∈ expW now x.conns, wnZ t) := expW_Z now (all_mem HZC.out)
    have HOK := hide hok
    have HS0 := hide hs0
    have HR := hide hR
    have HEL := hide hEl
    have HDZ0 := hide hDZ0
    clear hok hs0 hR hEl hDZ0
    go_enter Tryd.func23, Tryd.ntmps23
    go_wp2_with fail
    refine (HOF.out _ HPL.out).mono ?_
    rintro en W0 ⟨⟨_, _, D, M, Ls, lv, fv0, qv2, n, rfl, hdn, hn⟩ | ⟨hno, _⟩, hbW⟩
    case inr => exact absurd HOK.out hno
    rw [HS0.out] at hdn
    have hc0 : s0.conns = x.conns := by rw [← HS0.out]
    have HC0 := hide hc0
    have hLl : Ls.length = x.conns.length := by rw [← hc0]; exact hdn.desk.len
    have HQB0 := hide hdn.fqueue.qb
    have HST : Hid (ExpL w1.heap.size w1 W0 D M Ls now s0 lv qv2 (.slice none 0 0) n 0 (.slice none 0 0) W0) := ⟨⟨fv0, by rw [expD_zero]; exact hdn⟩, by simp [expW]; exact FB.nil _ _ _ _ _, hbW, Nat.le_refl _⟩
    have HLINE : Hid (∀ k (hk : k < Ls.length), ∃ b cap, lv = .slice (some ⟨b, 0, none⟩) Ls.length cap) := fun k hk => by
      obtain ⟨b, cap, e, _⟩ := hdn.desk.lineAt hk
      exact ⟨b, cap, e⟩
    obtain ⟨lb, lcap, hlv⟩ := HLINE.out 0 (by omega)
    subst hlv
    have d3 : W0.cell? ⟨D, 3, none⟩ = some (.slice (some ⟨lb, 0, none⟩) Ls.length lcap) := hdn.desk.cells.1.2.2.2.1
    have HBW := hide hbW
    have HLL := hide hLl
    clear hbW hdn hc0 HLINE hLl
    go_wp2_with fail
    go_loopg [22, 8] Ls.length (fun q i v wx => ∃ k : Nat, k ≤ Ls.length ∧ q = Ls.length - k ∧ i = .int .i64 k ∧ ExpL w1.heap.size w1 W0 D M Ls now s0 (.slice (some ⟨lb, 0, none⟩) Ls.length lcap) qv2 (.slice none 0 0) n k v wx)
    case atStart => exact ⟨0, Nat.zero_le _, rfl, rfl, HST.out⟩
    case round =>
      obtain ⟨k, hk, rfl, rfl, ⟨fvk, hdk⟩, hF, hb, hsz⟩ := hrel
      by_cases hlt : k < Ls.length
      · have hkc : k < s0.conns.length := by rw [HC0.out, ← HLL.out]; exact hlt
        obtain ⟨hkE, hEk⟩ := expD_at now s0 hkc
        obtain ⟨c, hc⟩ : ∃ c, s0.conns[k] = c := ⟨_, rfl⟩
        obtain ⟨lb2, lcap2, hle, hlbl, hlcell⟩ := hdk.desk.lineAt hlt
        injection hle with hle1 _ hle3
        injection hle1 with hle1
        injection hle1 with hle1 _ _
        subst hle1 hle3
        obtain ⟨L, hL⟩ : ∃ L, Ls[k] = L := ⟨_, rfl⟩
        rw [hL] at hlcell
        have hln := hdk.desk.line k hlt hkE
        rw [hEk, hc, hL] at hln
        obtain ⟨⟨m0, m1, m2, m3, m4, m5, m6, m7⟩, _⟩ := hln.line7
        have hi : (k : Int) < (Ls.length : Int) := by omega
        have lL := hln.lt
        have HK := hide hlt
        have hkb : (k : Int) ≤ 100 := by have := HLL.out; omega
        cases hbz : c.busy with
        | false =>
          rw [hbz] at m0
          have HN : Hid (ExpL w1.heap.size w1 W0 D M Ls now s0 (.slice (some ⟨lb, 0, none⟩) Ls.length lcap) qv2 (.slice none 0 0) n (k + 1) u8 wr) := by
            have he : expB now s0.conns[k] = false := by rw [hc]; unfold expB; rw [hbz]; rfl
            exact ⟨⟨fvk, by rw [expD_skip now s0 hkc he]; exact hdk⟩, by rw [expW_skip now s0.conns hkc he]; exact hF, hb, hsz⟩
          clear hdk hF hb hbz hln hc hL
          go_wp2_with fail
          go_roundg (Ls.length - (k + 1))
          case measure => omega
          case rel => exact ⟨k + 1, by have := HK.out; omega, rfl, by have := HK.out; have := HLL.out; go_num, HN.out⟩
        | true =>
          rw [hbz] at m0
          by_cases hdue : c.due ≤ now
          · have he : expB now s0.conns[k] = true := by rw [hc]; unfold expB; rw [hbz]; simpa using hdue
            have hfl : (expD now s0 k).free.length ≤ 1000 := by
              have h1 := expD_free_len now s0 k
              have h2 : s0.free.length ≤ s0.conns.length := by rw [← HS0.out]; exact freeGo_len 0 _
              have h3 := HC0.out
              rw [h3] at h1 h2
              omega
            have hrel := release_any hdk k hlt hkE (by have := hb.size; omega) (by rw [hEk]; exact HDZ0.out.1 _ (List.getElem_mem hkc)) hfl (by have := HLL.out; omega)
            simp only [hEk, hc, hL] at hrel
            unfold wnV at hrel
            have HREL := hide hrel
            have HF := hide hF
            have HB := hide hb
            have HSZ := hide hsz
            have HE := hide he
            have HCC := hide hc
            have HKC := hide hkc
            obtain ⟨av, cav, hfv, _⟩ := hF.form
            subst hfv
            obtain ⟨vl, hvl⟩ : ∃ vl, (expW now (List.take k s0.conns)).length = vl := ⟨_, rfl⟩
            rw [hvl] at HF
            have HVL := hide hvl
            rw [hvl]
            clear hdk hF hb hbz hln hc hL hrel he hvl
            go_wp2_with fail
            refine HREL.out.mono ?_
            rintro en W1 ⟨rfl, fv2, hd1, hb1, ht1⟩
            have hF1 := HF.out.keepT (ht1 _ (by decide) (by decide) (by decide) (by decide))
            have hs1 : W0.heap.size ≤ W1.heap.size := by have := hb1.size; have := HSZ.out; omega
            obtain ⟨v', W2, hr, hF2, o2, hat⟩ := app1 Tryd.underlying31 info_Want rfl (by decide) wnC_len wnC_one hF1 31 c.want hs1 (by have := expW_len now (s0.conns.take k); rw [List.length_take] at this; have := HLL.out; omega) (by omega)
            have hr2 : (Builtin.append_ #[31, 31] 31 #[.slice av vl cav, .slice (some ⟨W1.heap.size, 0, none⟩) 1 1]).run Tryd.prog (W1.alloc (.cells #[.int .i64 c.want.client, .string c.want.tag, .string c.want.query, .string c.want.pointer] 38)) = .ok v' W2 := hr
            have hd2 := hd1.keepO hF1 o2 HQB0.out
            have HN : Hid (ExpL w1.heap.size w1 W0 D M Ls now s0 (.slice (some ⟨lb, 0, none⟩) Ls.length lcap) qv2 (.slice none 0 0) n (k + 1) v' W2) := by
              refine ⟨⟨fv2, by rw [expD_hit now s0 HKC.out HE.out]; exact hd2⟩, by rw [expW_hit now s0.conns HKC.out HE.out, HCC.out]; exact hF2, ?_, by have := o2.size; omega⟩
              have c1 := HB.out.trans hb1
              exact c1.trans (o2.below c1.size fun d hd => by have := (hF1.own d hd).1; have := HBW.out.size; omega)
            obtain ⟨a5, c5, hf5, _⟩ := hF2.form
            rw [List.length_append, List.length_singleton, HVL.out] at hf5
            subst hf5
            clear hd1 hb1 ht1 hF1 hr hF2 o2 hat hd2
            go_wp2_with (first | (at_builtin; refine wpList_app rfl _ _ 31 rfl hr2 (by first | rfl | simp [Act.eval, Act.put]) (by first | rfl | simp [Act.eval, Act.put]) ?_))
            go_roundg (Ls.length - (k + 1))
            case measure => omega
            case rel => exact ⟨k + 1, by have := HK.out; omega, rfl, by have := HK.out; have := HLL.out; go_num, HN.out⟩
          · have HN : Hid (ExpL w1.heap.size w1 W0 D M Ls now s0 (.slice (some ⟨lb, 0, none⟩) Ls.length lcap) qv2 (.slice none 0 0) n (k + 1) u8 wr) := by
              have he : expB now s0.conns[k] = false := by rw [hc]; unfold expB; rw [hbz]; simpa using hdue
              exact ⟨⟨fvk, by rw [expD_skip now s0 hkc he]; exact hdk⟩, by rw [expW_skip now s0.conns hkc he]; exact hF, hb, hsz⟩
            clear hdk hF hb hbz hln hc hL
            go_wp2_with fail
            go_roundg (Ls.length - (k + 1))
            case measure => omega
            case rel => exact ⟨k + 1, by have := HK.out; omega, rfl, by have := HK.out; have := HLL.out; go_num, HN.out⟩
      · have hkl : k = x.conns.length := by rw [← HLL.out]; omega
        subst hkl
        have HF := hide hF
        rw [show s0.conns.take x.conns.length = x.conns by rw [← HC0.out, List.take_length]] at HF
        have HB := hide hb
        have HSZ := hide hsz
        have HQBk := hide (fun hi (h : QB qv2 hi) => h)
        have hE := HS0.out
        have HCALL := hide (serveI_any sendOk hdk.desk (by have := hb.size; omega) (HI1.out.keep hb) (by rw [← hE]; simp only [expD]; omega) (by rw [← hE]; simp only [expD]; omega) (by rw [← hE]; simp only [expD]; omega) (by rw [← hE]; simp only [expD]; omega) (by rw [← hE]; simp only [expD]; omega) (by rw [← hE]; simp only [expD]; omega) (by rw [← hE]; simp [expD]) (by omega) (by have := HLL.out; omega) (by rw [HEL.out]; omega))
        rw [HEL.out, HR.out] at HCALL
        obtain ⟨av, cav, hfv, _⟩ := HF.out.form
        subst hfv
        clear hdk hF hb hE
        go_wp2_with fail
        refine HCALL.out.mono ?_
        rintro en W6 ⟨rfl, fv6, qv6, sv6, n6, hd6, hb6, ht6, hq6⟩
        have HB6 := hide (HB.out.trans hb6)
        have HF6 := hide (HF.out.keepT (ht6 _ (by decide) (by decide) (by decide) (by decide)))
        have HQ6 := hide (hq6 _ HQB0.out)
        obtain ⟨a8, c8, hsf, _⟩ := hd6.sent.form
        subst hsf
        obtain ⟨D7, hwd7⟩ : ∃ D7, W6.drew = D7 := ⟨_, rfl⟩
        have hk0 : Below W6.heap.size W6 W6.drew := (Below.refl _ _).drew
        have hk1 : Below W6.heap.size W6 D7 := by rw [← hwd7]; exact hk0
        have hd7 := hd6.below hk1
        have HB7 := hide (bj2 hk1 HB6.out (Nat.le_refl _))
        have HF7 := hide (HF6.out.below hk1)
        have KS7 : Hid (∀ X, Below W6.heap.size W6 X → X.cell? ⟨D, 7, none⟩ = some (.slice a8 R.sent.length c8)) := fun X hX => (hd6.below hX).cells.1.2.2.2.2.2.2.2
        have HPI := hide (poolI_any hd7 (mem_all HZR.out.1.1) (mem_all HZR.out.1.2.1) (by have := HLL.out; omega) (by have := HZR.out.2.2.1; rw [HEL.out] at this; omega) HB7.out.size)
        unfold plV at HPI
        have HD7 := hide hd7
        have HNE := hide (show D ≠ w.heap.size + 1 from by have := hd7.lows.1; have := HB2lt.out; omega)
        clear hd6 hb6 hd7 ht6 hq6
        go_wp2_with fail
        go_region_held3 (fun X : World => X.cell? ⟨D, 7, none⟩ = some (.slice a8 R.sent.length c8))
          (first | with_reducible exact KS7.out _ hk0 | with_reducible exact KS7.out _ hk1 | with_reducible exact KS7.out _ hS9 | with_reducible exact hS10 _ _ _ _)
          (first | (go_at_call 44; refine HPI.out.mono ?_; rintro e W9 ⟨cv9, qv9, b1, b2, rfl, hpo, hb1, hb2, hb9⟩; obtain ⟨⟨a9, c9, e9⟩, a10, c10, e10⟩ := hpo.at.form; simp only at e9 e10; subst e9 e10; have hS9 : Below W6.heap.size W6 W9 := bjoin hb9 hk1; obtain ⟨_, ⟨⟨r0, r1, r2, r3⟩, f0, f1, f2, f3⟩, hz9⟩ := KS.out W9 (bj2 hb9 HB7.out (Nat.le_refl _)); have hS10 : ∀ x0 x1 x2 x3, ((((W9.setCell ⟨w.heap.size + 1, 0, none⟩ x0).setCell ⟨w.heap.size + 1, 1, none⟩ x1).setCell ⟨w.heap.size + 1, 2, none⟩ x2).setCell ⟨w.heap.size + 1, 3, none⟩ x3).cell? ⟨D, 7, none⟩ = some (.slice a8 R.sent.length c8) := fun x0 x1 x2 x3 => (cellSame ((four_blk W9 (w.heap.size + 1) x0 x1 x2 x3).1 D HNE.out)).trans (KS7.out _ hS9)))
        have HFIN : Hid (∀ x0 x1 x2 x3, ExpI x now w (.returned (.tuple #[.agg #[.int .i64 R.epoch, .int .i64 R.next, .slice a9 R.conns.length c9, .slice a10 R.queue.length c10], .slice a8 R.sent.length c8, .slice av (expW now x.conns).length cav])) ((((W9.setCell ⟨w.heap.size + 1, 0, none⟩ x0).setCell ⟨w.heap.size + 1, 1, none⟩ x1).setCell ⟨w.heap.size + 1, 2, none⟩ x2).setCell ⟨w.heap.size + 1, 3, none⟩ x3)) := fun x0 x1 x2 x3 => by
          have hO : Only [w.heap.size + 1] W9 ((((W9.setCell ⟨w.heap.size + 1, 0, none⟩ x0).setCell ⟨w.heap.size + 1, 1, none⟩ x1).setCell ⟨w.heap.size + 1, 2, none⟩ x2).setCell ⟨w.heap.size + 1, 3, none⟩ x3) := ((((Only.refl _ _).setCell (by simp) _).setCell (by simp) _).setCell (by simp) _).setCell (by simp) _
          generalize ((((W9.setCell ⟨w.heap.size + 1, 0, none⟩ x0).setCell ⟨w.heap.size + 1, 1, none⟩ x1).setCell ⟨w.heap.size + 1, 2, none⟩ x2).setCell ⟨w.heap.size + 1, 3, none⟩ x3) = X at hO
          obtain ⟨b3, h1, h2, h3, h4, h5, h6⟩ := PoolSent.of4 HD7.out HB1.out HB7.out (B := w.heap.size + 1) (by omega) HB2lt.out hpo hb1 hb2 hb9 HZR.out.1.2.2 (by have := HZR.out.2.2.2; rw [← HS0.out] at this; simp [expD] at this; omega) hO
          obtain ⟨b4, k1, k2, _⟩ := FO.of_own wnC_len HF7.out (by have := expW_len now x.conns; omega)
          have hw1 := HBW.out.size
          have hw0 := HB1.out.size
          have k3 : ∀ d ∈ b4, W0.heap.size ≤ d ∧ d < D7.heap.size ∧ ∃ cur, Box D7 d 38 cur := fun d hd => ⟨(k2 d hd).1, RowC.lt k1 d hd, HF7.out.box d (by rw [(k2 d hd).2]; simp)⟩
          unfold ExpI
          rw [HAP.out]
          refine ⟨_, _, _, _, b1, b2, b3, b4, rfl, h1, h2, h3, h4, RowC.kept (RowC.below k1 hb9) hO.size fun d hd => hO.block d (by have := (k3 d hd).2.1; have := hb9.size; omega) (by have := (k3 d hd).1; have := HB2lt.out; simp; omega), HZL.out, fun d hd => ⟨by have := (k3 d hd).1; omega, fun h => ?_, fun h => ?_, fun h => ?_⟩, h5⟩
          · have := hb1 d h; have := (k3 d hd).2.1; omega
          · have := (hb2 d h).2 _ HQ6.out; have := (k3 d hd).1; omega
          · obtain ⟨c1, e1⟩ := h6 d h
            obtain ⟨_, _, c2, e2⟩ := k3 d hd
            exact (e1.ne e2 (by decide)) rfl
        clear hpo hb1 hb2 hb9 hS9 hS10
        go_wp2_with fail
        exact bodyPost_ret (v := .tuple #[.agg #[.int .i64 R.epoch, .int .i64 R.next, .slice a9 R.conns.length c9, .slice a10 R.queue.length c10], .slice a8 R.sent.length c8, .slice av (expW now x.conns).length cav]) (by simp [results, Tryd.results23, go_sem, r0, r1, r2, r3, hz9]) rfl (HFIN.out _ _ _ _)
  · have HG : Hid (∀ W, Below w1.heap.size w1 W → ∀ x0 x1 x2 x3, ExpI x now w (.returned (.tuple #[.agg #[.int .i64 0, .int .i64 0, .slice none 0 0, .slice none 0 0], .slice none 0 0, .slice none 0 0])) ((((W.setCell ⟨w.heap.size + 1, 0, none⟩ x0).setCell ⟨w.heap.size + 1, 1, none⟩ x1).setCell ⟨w.heap.size + 1, 2, none⟩ x2).setCell ⟨w.heap.size + 1, 3, none⟩ x3)) := fun W hW x0 x1 x2 x3 => by
      have e : expP x now = (pl0, [], []) := if_neg hok
      unfold ExpI
      rw [e]
      exact ⟨_, _, _, _, [], [], [], [], rfl, PlO.none _ _ _ _ _ _ _ _, ⟨by simp, .inl ⟨_, _, rfl, rfl, rfl⟩⟩, by simp, by simp, ⟨by simp, .inl ⟨_, _, rfl, rfl, rfl⟩⟩, by simp, by simp, ((((bjoin hW HB1.out).setCell (by simp) _).setCell (by simp) _).setCell (by simp) _).setCell (by simp) _⟩
    go_enter Tryd.func23, Tryd.ntmps23
    go_wp2_with fail
    refine (HOF.out _ HPL.out).mono ?_
    rintro en W ⟨⟨h1, h2, _⟩ | ⟨hno, rfl⟩, hbW⟩
    case inl => exact absurd ⟨h1, h2⟩ hok
    obtain ⟨⟨p0, p1, p2, p3⟩, ⟨⟨r0, r1, r2, r3⟩, f0, f1, f2, f3⟩, hz9⟩ := KS.out W hbW
    have HBW := hide hbW
    clear hbW
    go_wp2_with fail
    exact bodyPost_ret (v := .tuple #[.agg #[.int .i64 0, .int .i64 0, .slice none 0 0, .slice none 0 0], .slice none 0 0, .slice none 0 0]) (by simp [results, Tryd.results23, go_sem, r0, r1, r2, r3, hz9]) rfl (HG.out _ HBW.out _ _ _ _)
end Go.Proofs.YtfeccdhadgpnkaaDoor.Msg
