import Derived.Test.YtfeccdhadgpnkaaDoorDeskPoolwithDeskPure
import Derived.Test.YtfeccdhadgpnkaaDoorServeSwithAskS
import Derived.Test.YtfeccdhadgpnkaaDoorDeskClonewithPoolOkI
import Derived.Test.YtfeccdhadgpnkaaDoorPhasewithDeskSend
import Derived.Test.YtfeccdhadgpnkaaDoorDeskOfwithDeskOf2
namespace Go.Proofs.YtfeccdhadgpnkaaDoor.Msg
open Go.ChangeShapes Go.WideShapes Go.ChangeAt Go.RowKit
set_option linter.unusedVariables false
set_option linter.unusedSimpArgs false

/-- a queue that is full finds no line free -/
theorem full_free {x : Pl} (h : okPl x = true) (hq : x.queue.length = 16) : freeI x.conns < 0 ∧ 16 ≤ x.queue.length := by
  refine ⟨Int.not_le.1 fun h0 => ?_, by omega⟩
  obtain ⟨k, hk, hb⟩ := freeI_some h0
  rw [okPl_free hk hb (by omega)] at h
  cases h
/-- the sizes of what a desk holds -/
def DsZ (s : Ds) : Prop := (∀ c ∈ s.conns, cnZ c) ∧ (∀ q ∈ s.queue, wnZ q) ∧ ∀ t ∈ s.sent, stZ t
theorem sendP_Z {s : Ds} (k : Nat) (z : Wn) (h : DsZ s) (hz : wnZ z) (he : s.epoch ≤ 9999999) (hn : s.next ≤ 9999999) : DsZ (sendP s k z) := by
  have hc := ctl_size s.epoch s.next he hn
  refine ⟨fun c hc' => ?_, h.2.1, fun t ht => ?_⟩
  · rcases List.mem_or_eq_of_mem_set hc' with h1 | h1
    · exact h.1 c h1
    · rw [h1]; exact ⟨by simp only; omega, hz⟩
  · rcases List.mem_append.1 ht with h1 | h1
    · exact h.2.2 t h1
    · simp at h1; rw [h1]; exact ⟨by simp only; omega, hz⟩
theorem serveD_Z : ∀ (f : Nat) (s : Ds), s.epoch ≤ 9999999 → s.next + f ≤ 9999999 → DsZ s → DsZ (serveD f s) ∧ (serveD f s).conns.length = s.conns.length ∧ (serveD f s).queue.length ≤ s.queue.length ∧ (serveD f s).sent.length ≤ s.sent.length + f
  | 0, s, _, _, h => ⟨h, rfl, Nat.le_refl _, Nat.le_refl _⟩
  | f + 1, s, he, hn, h => by
    cases hf : s.free with
    | nil => rw [serveD_nofree _ _ hf]; exact ⟨h, rfl, Nat.le_refl _, by omega⟩
    | cons k fs =>
      cases hq : s.queue with
      | nil => rw [serveD_noqueue _ _ hq]; exact ⟨h, rfl, by rw [hq]; simp, by omega⟩
      | cons z qs =>
        rw [serveD_step f s hf hq]
        have h1 : DsZ { s with free := fs, queue := qs } := ⟨h.1, fun q hq' => h.2.1 q (by rw [hq]; exact List.mem_cons_of_mem _ hq'), h.2.2⟩
        have h2 := sendP_Z k z h1 (h.2.1 z (by rw [hq]; simp)) (by simp only; omega) (by simp only; omega)
        obtain ⟨i1, i2, i3, i4⟩ := serveD_Z f (sendP { s with free := fs, queue := qs } k z) (by simp only [sendP]; omega) (by simp only [sendP]; omega) h2
        refine ⟨i1, ?_, ?_, ?_⟩
        · rw [i2]; simp [sendP]
        · have e : (sendP { s with free := fs, queue := qs } k z).queue.length = qs.length := rfl
          rw [e] at i3
          simp only [List.length_cons]; omega
        · have e : (sendP { s with free := fs, queue := qs } k z).sent.length = s.sent.length + 1 := by simp [sendP]
          rw [e] at i4
          omega
theorem mem_all {α : Type} {xs : List α} {Z : α → Prop} (h : ∀ x ∈ xs, Z x) : ∀ i (hi : i < xs.length), Z xs[i] := fun i hi => h _ (List.getElem_mem hi)
theorem all_mem {α : Type} {xs : List α} {Z : α → Prop} (h : ∀ i (hi : i < xs.length), Z xs[i]) : ∀ x ∈ xs, Z x := fun x hx => by
  obtain ⟨i, hi, e⟩ := List.getElem_of_mem hx
  rw [← e]; exact h i hi
/-- what a desk serves is what the pool of it serves -/
theorem served (s : Ds) (hf : s.free = freeIdx s.conns ∨ s.queue = []) (hs : s.sent = []) : serveA s.now ⟨s.epoch, s.next, s.conns, s.queue⟩ = (⟨(serveD s.queue.length s).epoch, (serveD s.queue.length s).next, (serveD s.queue.length s).conns, (serveD s.queue.length s).queue⟩, (serveD s.queue.length s).sent) := by
  obtain ⟨_, _, h3, h4⟩ := serveD_serve s.queue.length s hf
  rw [hs, List.nil_append] at h4
  unfold serveA
  exact Prod.ext h3 h4.symm
end Go.Proofs.YtfeccdhadgpnkaaDoor.Msg

namespace Go.Proofs.YtfeccdhadgpnkaaDoor.Msg
open Go.ChangeShapes Go.WideShapes Go.ChangeAt Go.RowKit
set_option linter.unusedVariables false
set_option linter.unusedSimpArgs false

theorem Desk.setQueue {lo : Nat} {w w' : World} {D M : Nat} {Ls : List Nat} {s : Ds} {lv fv qv sv qv' : Value} {n : Nat} {qs : List Wn} (h : Desk lo w D M Ls s lv fv qv sv n) (hq : FB wnC 4 38 lo w qv s.queue) (ho : Only qv.ownBlock.toList w w') (hf : FB wnC 4 38 lo w' qv' qs) :
    Desk lo (w'.setCell ⟨D, 6, none⟩ qv') D M Ls { s with queue := qs } lv fv qv' sv n := by
  have hb' : Box w' D 76 #[.int .i64 s.epoch, .int .i64 s.next, .int .i64 s.now, lv, fv, .map (some M), qv, sv] := h.box.keepT (TSame.own hq ho (by decide))
  have hm' : MapO w' M n := h.map.keep (ho.block M h.map.lt fun hx => by obtain ⟨cur, hb⟩ := hq.box M hx; exact (h.map.ne hb) rfl)
  have o2 : Only [D] w' (w'.setCell ⟨D, 6, none⟩ qv') := (Only.refl _ _).setCell (by simp) _
  exact ⟨hb'.set 6 _, h.len, fun i hi h2 => ((h.line i hi h2).keepT (TSame.own hq ho (by decide))).keepT (TSame.only o2 hb' (by decide)), h.nd, (h.lrow.keepT (TSame.own hq ho (by decide))).keepT (TSame.only o2 hb' (by decide)), (h.free.keepT (TSame.own hq ho (by decide))).keepT (TSame.only o2 hb' (by decide)), h.fok, (FV.of_own wnC_len hf (Nat.le_refl _)).keepT (TSame.only o2 hb' (by decide)), (h.sent.keepT (TSame.own hq ho (by decide))).keepT (TSame.only o2 hb' (by decide)), hm'.keep (o2.block M hm'.lt (by simp; exact fun e => (hm'.ne hb') e.symm)), h.lows⟩

/-- what a call of the pool gives: a pool and what was sent, in memory of its own -/
def PoolSent (x : Pl) (ss : List St) (w : World) (cv qv sv : Value) (w' : World) : Prop :=
  ∃ b1 b2 b3, PlO w.heap.size w' x cv qv b1 b2 ∧ FO stC 6 w' sv ss b3 ∧ (∀ t ∈ ss, stZ t) ∧ (∀ d ∈ b3, w.heap.size ≤ d ∧ d ∉ b1 ∧ d ∉ b2) ∧ Below w.heap.size w w'
theorem PoolSent.none (w w' : World) (e n : Int) (a1 a2 a3 : Option Addr) (c1 c2 c3 : Nat) (h : Below w.heap.size w w') : PoolSent ⟨e, n, [], []⟩ [] w (.slice a1 0 c1) (.slice a2 0 c2) (.slice a3 0 c3) w' :=
  ⟨[], [], [], PlO.none _ _ _ _ _ _ _ _, ⟨by simp, .inl ⟨_, _, rfl, rfl, rfl⟩⟩, by simp, by simp, h⟩
/-- what a desk gives out: pool() at the world W8, and the answer's box is filled -/
theorem PoolSent.of4 {w w1 W8 W9 X : World} {D M : Nat} {Ls : List Nat} {s : Ds} {lv fv qv sv cv9 qv9 : Value} {n B : Nat} {b1 b2 : List Nat} (hd : Desk w1.heap.size W8 D M Ls s lv fv qv sv n) (hw : Below w.heap.size w w1) (hl : Below w1.heap.size w1 W8) (hB0 : w.heap.size ≤ B) (hB1 : B < w1.heap.size)
    (hpo : PlO w1.heap.size W9 ⟨s.epoch, s.next, s.conns, s.queue⟩ cv9 qv9 b1 b2) (hb1 : ∀ d ∈ b1, W8.heap.size ≤ d) (hb2 : ∀ d ∈ b2, (∃ cur, Box W8 d 38 cur) ∧ ∀ hi, QB qv hi → d < hi) (h9 : Below W8.heap.size W8 W9) (hz : ∀ t ∈ s.sent, stZ t) (hsl : s.sent.length ≤ 1000) (hX : Only [B] W9 X) :
    ∃ b3, PlO w.heap.size X ⟨s.epoch, s.next, s.conns, s.queue⟩ cv9 qv9 b1 b2 ∧ FO stC 6 X sv s.sent b3 ∧ (∀ t ∈ s.sent, stZ t) ∧ (∀ d ∈ b3, w.heap.size ≤ d ∧ d ∉ b1 ∧ d ∉ b2) ∧ Below w.heap.size w X ∧ ∀ d ∈ b3, ∃ cur, Box W8 d 81 cur := by
  obtain ⟨b3, f3, o3, _⟩ := FO.of_own stC_len hd.sent (by omega)
  have hsz : w.heap.size ≤ w1.heap.size := hw.size
  have hX' : ∀ d, w1.heap.size ≤ d → d < W9.heap.size → X.heap[d]? = W9.heap[d]? := fun d h1 h2 => hX.block d h2 (by simp; omega)
  have h3 : ∀ d ∈ b3, w1.heap.size ≤ d ∧ d < W8.heap.size ∧ ∃ cur, Box W8 d 81 cur := fun d hd' => by
    obtain ⟨q1, q2⟩ := o3 d hd'
    exact ⟨q1, RowC.lt f3 d hd', hd.sent.box d (by rw [q2]; simp)⟩
  have hs8 : W8.heap.size ≤ W9.heap.size := h9.size
  refine ⟨b3, ⟨RowC.kept hpo.1 hX.size fun d h => hX' d (hpo.2.2.2.1 d h) (RowC.lt hpo.1 d h), RowC.kept hpo.2.1 hX.size fun d h => hX' d (hpo.2.2.2.2.1 d h) (RowC.lt hpo.2.1 d h), hpo.2.2.1, fun d h => by have := hpo.2.2.2.1 d h; omega, fun d h => by have := hpo.2.2.2.2.1 d h; omega, hpo.2.2.2.2.2.1, hpo.2.2.2.2.2.2⟩, ?_, hz, fun d h => ⟨by have := (h3 d h).1; omega, fun h1 => ?_, fun h2 => ?_⟩, ?_, fun d h => (h3 d h).2.2⟩
  · refine RowC.kept (RowC.below f3 h9) hX.size fun d h => hX' d (h3 d h).1 (by have := (h3 d h).2.1; omega)
  · have := hb1 d h1
    have := (h3 d h).2.1
    omega
  · obtain ⟨⟨c1, hc1⟩, _⟩ := hb2 d h2
    obtain ⟨_, _, c2, hc2⟩ := h3 d h
    exact (hc1.ne hc2 (by decide)) rfl
  · have c1 : Below w.heap.size w W9 := bjoin (bjoin h9 (hl.mono (Nat.le_refl _))) hw
    exact c1.trans (hX.below (by have := c1.size; omega) fun d hd' => by simp at hd'; omega)
theorem PoolSent.of {w w1 W8 W9 X : World} {D M : Nat} {Ls : List Nat} {s : Ds} {lv fv qv sv cv9 qv9 : Value} {n B : Nat} {b1 b2 : List Nat} (hd : Desk w1.heap.size W8 D M Ls s lv fv qv sv n) (hw : Below w.heap.size w w1) (hl : Below w1.heap.size w1 W8) (hB0 : w.heap.size ≤ B) (hB1 : B < w1.heap.size)
    (hpo : PlO w1.heap.size W9 ⟨s.epoch, s.next, s.conns, s.queue⟩ cv9 qv9 b1 b2) (hb1 : ∀ d ∈ b1, W8.heap.size ≤ d) (hb2 : ∀ d ∈ b2, (∃ cur, Box W8 d 38 cur) ∧ ∀ hi, QB qv hi → d < hi) (h9 : Below W8.heap.size W8 W9) (hz : ∀ t ∈ s.sent, stZ t) (hsl : s.sent.length ≤ 1000) (hX : Only [B] W9 X) :
    PoolSent ⟨s.epoch, s.next, s.conns, s.queue⟩ s.sent w cv9 qv9 sv X := by
  obtain ⟨b3, h1, h2, h3, h4, h5, _⟩ := PoolSent.of4 hd hw hl hB0 hB1 hpo hb1 hb2 h9 hz hsl hX
  exact ⟨b1, b2, b3, h1, h2, h3, h4, h5⟩
def AskI (x : Pl) (q : Wn) (now : Int) (w : World) (en : Ending) (w' : World) : Prop :=
  ∃ cv qv sv, en = .returned (.tuple #[plV (askP x q now).1 cv qv, sv, .int .i64 (askP x q now).2.2]) ∧ PoolSent (askP x q now).1 (askP x q now).2.1 w cv qv sv w'

end Go.Proofs.YtfeccdhadgpnkaaDoor.Msg
