import Derived.Test.YtfdefjdogmhinaaDoorDeskClonewithPoolOkI
import Derived.Test.YtfdefjdogmhinaaDoorDeskwithDeskServe
namespace Go.Proofs.YtfdefjdogmhinaaDoor.Msg
open Go.ChangeShapes Go.WideShapes Go.ChangeAt Go.RowKit
set_option linter.unusedVariables false
set_option linter.unusedSimpArgs false

def freeGo : Nat → List Cn → List Nat
  | _, [] => []
  | i, c :: cs => if c.busy then freeGo (i + 1) cs else i :: freeGo (i + 1) cs
def freeIdx (cs : List Cn) : List Nat := freeGo 0 cs
theorem freeGo_snoc : ∀ (i : Nat) (cs : List Cn) (c : Cn), freeGo i (cs ++ [c]) = freeGo i cs ++ (if c.busy then [] else [i + cs.length])
  | i, [], c => by simp [freeGo]
  | i, d :: cs, c => by
    simp only [List.cons_append, freeGo]
    rw [freeGo_snoc (i + 1) cs c]
    have e : i + 1 + cs.length = i + (d :: cs).length := by simp; omega
    rw [e]
    split <;> simp
theorem freeGo_lt : ∀ (i : Nat) (cs : List Cn), ∀ k ∈ freeGo i cs, k < i + cs.length
  | i, [], k, h => by simp [freeGo] at h
  | i, c :: cs, k, h => by
    simp only [freeGo] at h
    split at h
    · have := freeGo_lt (i + 1) cs k h; simp; omega
    · rcases List.mem_cons.1 h with rfl | h
      · simp
      · have := freeGo_lt (i + 1) cs k h; simp; omega
theorem freeGo_len : ∀ (i : Nat) (cs : List Cn), (freeGo i cs).length ≤ cs.length
  | _, [] => by simp [freeGo]
  | i, c :: cs => by
    simp only [freeGo]
    have := freeGo_len (i + 1) cs
    split <;> simp <;> omega
theorem getD_snoc {xs : List Nat} {y i : Nat} (h : i < xs.length) : (xs ++ [y]).getD i 0 = xs.getD i 0 := by
  rw [List.getD_eq_getElem?_getD, List.getD_eq_getElem?_getD, List.getElem?_append_left h]

theorem Desk.addLine {lo : Nat} {w w' : World} {D M : Nat} {Ls : List Nat} {s : Ds} {lv lv' fv qv sv : Value} {n L : Nat} {c : Cn} (h : Desk lo w D M Ls s lv fv qv sv n) (hL : Box w L 68 (lnA c Ls.length)) (hlo : lo ≤ L) (hnew : L ∉ Ls)
    (ho : Only lv.ownBlock.toList w w') (hf : FB ptrC 1 64 lo w' lv' (Ls ++ [L])) (hfv : FV ptrC 1 64 lo w' fv (s.free.map fun i => Ls.getD i 0)) :
    Desk lo (w'.setCell ⟨D, 3, none⟩ lv') D M (Ls ++ [L]) { s with conns := s.conns ++ [c] } lv' fv qv sv n := by
  have hb' : Box w' D 58 #[.int .i64 s.epoch, .int .i64 s.next, .int .i64 s.now, lv, fv, .map (some M), qv, sv] := h.box.keepT (TSame.own h.lrow ho (by decide))
  have hm' : MapO w' M n := h.map.keep (ho.block M h.map.lt fun hx => by obtain ⟨cur, hb⟩ := h.lrow.box M hx; exact (h.map.ne hb) rfl)
  have o2 : Only [D] w' (w'.setCell ⟨D, 3, none⟩ lv') := (Only.refl _ _).setCell (by simp) _
  refine ⟨hb'.set 3 _, by simp [h.len], fun i hi hi2 => ?_, ?_, hf.keepT (TSame.only o2 hb' (by decide)), ?_, fun i hi => by have := h.fok i hi; simp; omega, (h.queue.keepT (TSame.own h.lrow ho (by decide))).keepT (TSame.only o2 hb' (by decide)), (h.sent.keepT (TSame.own h.lrow ho (by decide))).keepT (TSame.only o2 hb' (by decide)), hm'.keep (o2.block M hm'.lt (by simp; exact fun e => (hm'.ne hb') e.symm)), h.lows.1, h.lows.2.1, fun b hb => ?_⟩
  · by_cases hlt : i < Ls.length
    · have hlt2 : i < s.conns.length := by rw [← h.len]; exact hlt
      rw [List.getElem_append_left hlt]
      simp only [List.getElem_append_left hlt2]
      exact ((h.line i hlt hlt2).keepT (TSame.own h.lrow ho (by decide))).keepT (TSame.only o2 hb' (by decide))
    · have e : i = Ls.length := by simp at hi; omega
      subst e
      have e2 : Ls.length = s.conns.length := h.len
      rw [List.getElem_append_right (Nat.le_refl _)]
      simp only [Nat.sub_self, List.getElem_singleton]
      have : (s.conns ++ [c])[Ls.length]'(by simpa using hi2) = c := by
        rw [List.getElem_append_right (by omega)]
        simp
      simp only [this]
      exact (hL.keepT (TSame.own h.lrow ho (by decide))).keepT (TSame.only o2 hb' (by decide))
  · rw [List.nodup_append]
    exact ⟨h.nd, by simp, fun a ha b hb e => hnew (by simp at hb; subst hb; rw [← e]; exact ha)⟩
  · have e : (s.free.map fun i => (Ls ++ [L]).getD i 0) = s.free.map fun i => Ls.getD i 0 := List.map_congr_left fun i hi => getD_snoc (h.fok i hi)
    simp only [e]
    exact hfv.keepT (TSame.only o2 hb' (by decide))
  · rcases List.mem_append.1 hb with hb | hb
    · exact h.lows.2.2 b hb
    · simp at hb; omega
theorem Desk.addFree {lo : Nat} {w w' : World} {D M : Nat} {Ls : List Nat} {s : Ds} {lv fv fv' qv sv : Value} {n k : Nat} {xs : List Nat} (h : Desk lo w D M Ls s lv fv qv sv n) (hk : k < Ls.length)
    (hF : FB ptrC 1 64 lo w fv xs) (ho : Only fv.ownBlock.toList w w') (hf : FB ptrC 1 64 lo w' fv' ((s.free ++ [k]).map fun i => Ls.getD i 0)) (hl : FB ptrC 1 64 lo w' lv Ls) :
    Desk lo (w'.setCell ⟨D, 4, none⟩ fv') D M Ls { s with free := s.free ++ [k] } lv fv' qv sv n := by
  have hb' : Box w' D 58 #[.int .i64 s.epoch, .int .i64 s.next, .int .i64 s.now, lv, fv, .map (some M), qv, sv] := h.box.keepT (TSame.own hF ho (by decide))
  have hm' : MapO w' M n := h.map.keep (ho.block M h.map.lt fun hx => by obtain ⟨cur, hb⟩ := hF.box M hx; exact (h.map.ne hb) rfl)
  have o2 : Only [D] w' (w'.setCell ⟨D, 4, none⟩ fv') := (Only.refl _ _).setCell (by simp) _
  exact ⟨hb'.set 4 _, h.len, fun i hi h2 => ((h.line i hi h2).keepT (TSame.own hF ho (by decide))).keepT (TSame.only o2 hb' (by decide)), h.nd, hl.keepT (TSame.only o2 hb' (by decide)), (FV.of_own ptrC_len hf (Nat.le_refl _)).keepT (TSame.only o2 hb' (by decide)), fun i hi => by
    rcases List.mem_append.1 hi with hi | hi
    · exact h.fok i hi
    · simp at hi; omega, (h.queue.keepT (TSame.own hF ho (by decide))).keepT (TSame.only o2 hb' (by decide)), (h.sent.keepT (TSame.own hF ho (by decide))).keepT (TSame.only o2 hb' (by decide)), hm'.keep (o2.block M hm'.lt (by simp; exact fun e => (hm'.ne hb') e.symm)), h.lows⟩

/-- a desk as deskOf leaves it: what may still be appended to is owned -/
structure DeskN (lo : Nat) (w : World) (D M : Nat) (Ls : List Nat) (s : Ds) (lv fv qv sv : Value) (n : Nat) : Prop where
  desk : Desk lo w D M Ls s lv fv qv sv n
  ffree : FB ptrC 1 64 lo w fv (s.free.map fun i => Ls.getD i 0)
  sep : ∀ d ∈ fv.ownBlock.toList, d ∉ lv.ownBlock.toList
  fqueue : FB wnC 4 33 lo w qv s.queue
theorem DeskN.below {lo : Nat} {w w' : World} {D M : Nat} {Ls : List Nat} {s : Ds} {lv fv qv sv : Value} {n : Nat} (h : DeskN lo w D M Ls s lv fv qv sv n) (hb : Below w.heap.size w w') : DeskN lo w' D M Ls s lv fv qv sv n :=
  ⟨h.desk.below hb, h.ffree.below hb, h.sep, h.fqueue.below hb⟩
theorem DeskN.fresh {lo : Nat} {w : World} {M D : Nat} {e nx now : Int} {qs : List Wn} {qv : Value} (hM : MapO w M 0) (hq : FB wnC 4 33 lo w qv qs) (hD : Box w D 58 #[.int .i64 e, .int .i64 nx, .int .i64 now, .slice none 0 0, .slice none 0 0, .map (some M), qv, .slice none 0 0]) (hlM : lo ≤ M) (hlD : lo ≤ D) :
    DeskN lo w D M [] ⟨e, nx, now, [], [], qs, []⟩ (.slice none 0 0) (.slice none 0 0) qv (.slice none 0 0) 0 :=
  ⟨⟨hD, rfl, fun i h => absurd h (by simp), by simp, FB.nil _ _ _ _ _, .inl ⟨_, _, rfl, rfl⟩, by simp, FV.of_own wnC_len hq (Nat.le_refl _), FB.nil _ _ _ _ _, hM, hlD, hlM, by simp⟩, FB.nil _ _ _ _ _, by simp [Value.ownBlock], hq⟩
end Go.Proofs.YtfdefjdogmhinaaDoor.Msg

namespace Go.Proofs.YtfdefjdogmhinaaDoor.Msg
set_option linter.unusedVariables false
set_option linter.unusedSimpArgs false

theorem freeN_cons_busy {c : Cn} {cs : List Cn} (h : c.busy = true) : freeN (c :: cs) = freeN cs + 1 := by
  unfold freeN
  rw [List.findIdx_cons]
  simp [h]
theorem freeN_cons_free {c : Cn} {cs : List Cn} (h : c.busy = false) : freeN (c :: cs) = 0 := by
  unfold freeN
  rw [List.findIdx_cons]
  simp [h]
theorem freeGo_nil : ∀ (i : Nat) (cs : List Cn), freeGo i cs = [] → freeN cs = cs.length
  | _, [], _ => rfl
  | i, c :: cs, h => by
    simp only [freeGo] at h
    cases hb : c.busy with
    | true =>
      rw [hb] at h
      simp only [if_true] at h
      rw [freeN_cons_busy hb, freeGo_nil (i + 1) cs h, List.length_cons]
    | false => rw [hb] at h; simp at h
theorem freeGo_cons : ∀ (i : Nat) (cs : List Cn) (k : Nat) (fs : List Nat), freeGo i cs = k :: fs → k = i + freeN cs ∧ freeN cs < cs.length ∧ ∀ c' : Cn, c'.busy = true → freeGo i (cs.set (freeN cs) c') = fs
  | _, [], _, _, h => by simp [freeGo] at h
  | i, c :: cs, k, fs, h => by
    simp only [freeGo] at h
    cases hb : c.busy with
    | true =>
      rw [hb] at h
      simp only [if_true] at h
      obtain ⟨h1, h2, h3⟩ := freeGo_cons (i + 1) cs k fs h
      rw [freeN_cons_busy hb]
      refine ⟨by omega, by simp; omega, fun c' hc' => ?_⟩
      simp only [List.set_cons_succ, freeGo, hb, if_true]
      exact h3 c' hc'
    | false =>
      rw [hb] at h
      simp only [Bool.false_eq_true, if_false, List.cons.injEq] at h
      rw [freeN_cons_free hb]
      refine ⟨by omega, by simp, fun c' hc' => ?_⟩
      simp only [List.set_cons_zero, freeGo, hc', if_true]
      exact h.2
/-- the desk serves as the pool does -/
theorem serveD_serve : ∀ (f : Nat) (s : Ds), (s.free = freeIdx s.conns ∨ s.queue = []) →
    (serveD f s).epoch = s.epoch ∧ (serveD f s).now = s.now ∧ (serve f s.now ⟨s.epoch, s.next, s.conns, s.queue⟩).1 = ⟨(serveD f s).epoch, (serveD f s).next, (serveD f s).conns, (serveD f s).queue⟩ ∧ (serveD f s).sent = s.sent ++ (serve f s.now ⟨s.epoch, s.next, s.conns, s.queue⟩).2
  | 0, s, _ => by simp [serveD, serve]
  | f + 1, s, h => by
    cases hq : s.queue with
    | nil =>
      rw [serveD_noqueue _ _ hq, serve_nil _ _ _ rfl, hq]
      simp
    | cons z qs =>
      have hfr : s.free = freeIdx s.conns := by
        rcases h with h | h
        · exact h
        · rw [hq] at h; cases h
      cases hf : s.free with
      | nil =>
        have hn := freeGo_nil 0 s.conns (by rw [hf] at hfr; exact hfr.symm)
        rw [serveD_nofree _ _ hf, serve_full _ _ _ (by simp only; omega), hq]
        simp
      | cons k fs =>
        obtain ⟨h1, h2, h3⟩ := freeGo_cons 0 s.conns k fs (by rw [hf] at hfr; exact hfr.symm)
        rw [serveD_step f s hf hq, serve_step f s.now _ z qs rfl h2]
        have hk : k = freeN s.conns := by omega
        have ih := serveD_serve f (sendP { s with free := fs, queue := qs } k z) (.inl (by
          simp only [sendP]
          rw [hk]
          exact (h3 _ rfl).symm))
        obtain ⟨i1, i2, i3, i4⟩ := ih
        have e : (⟨(sendP { s with free := fs, queue := qs } k z).epoch, (sendP { s with free := fs, queue := qs } k z).next, (sendP { s with free := fs, queue := qs } k z).conns, (sendP { s with free := fs, queue := qs } k z).queue⟩ : Pl) = putP s.now ⟨s.epoch, s.next, s.conns, z :: qs⟩ z qs := by
          simp only [sendP, putP, hk]
        have e2 : (sendP { s with free := fs, queue := qs } k z).now = s.now := rfl
        rw [e, e2] at i3 i4
        refine ⟨i1, i2, i3, ?_⟩
        rw [i4]
        simp [sendP, putS, hk]
end Go.Proofs.YtfdefjdogmhinaaDoor.Msg
