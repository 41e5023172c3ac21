import Derived.Test.YtfeccdhadgpnkaaDoorDeskClonewithPoolOkI
namespace Go.Proofs.YtfeccdhadgpnkaaDoor.Msg
open Go.ChangeShapes Go.WideShapes Go.ChangeAt Go.RowKit
set_option linter.unusedVariables false
set_option linter.unusedSimpArgs false

def freeGo : Nat → List Cn → List Nat
  | _, [] => []
  | i, c :: cs => if c.busy then freeGo (i + 1) cs else i :: freeGo (i + 1) cs
def freeIdx (cs : List Cn) : List Nat := freeGo 0 cs
theorem freeGo_snoc : ∀ (i : Nat) (cs : List Cn) (c : Cn), freeGo i (cs ++ [c]) = freeGo i cs ++ (if c.busy then [] else [i + cs.length])
  | i, [], c => by simp [freeGo]
  | i, d :: cs, c => by
    simp only [List.cons_append, freeGo]
    rw [freeGo_snoc (i + 1) cs c]
    have e : i + 1 + cs.length = i + (d :: cs).length := by simp; omega
    rw [e]
    split <;> simp
theorem freeGo_lt : ∀ (i : Nat) (cs : List Cn), ∀ k ∈ freeGo i cs, k < i + cs.length
  | i, [], k, h => by simp [freeGo] at h
  | i, c :: cs, k, h => by
    simp only [freeGo] at h
    split at h
    · have := freeGo_lt (i + 1) cs k h; simp; omega
    · rcases List.mem_cons.1 h with rfl | h
      · simp
      · have := freeGo_lt (i + 1) cs k h; simp; omega
theorem freeGo_len : ∀ (i : Nat) (cs : List Cn), (freeGo i cs).length ≤ cs.length
  | _, [] => by simp [freeGo]
  | i, c :: cs => by
    simp only [freeGo]
    have := freeGo_len (i + 1) cs
    split <;> simp <;> omega
theorem getD_snoc {xs : List Nat} {y i : Nat} (h : i < xs.length) : (xs ++ [y]).getD i 0 = xs.getD i 0 := by
  rw [List.getD_eq_getElem?_getD, List.getD_eq_getElem?_getD, List.getElem?_append_left h]

theorem Desk.addLine {lo : Nat} {w w' : World} {D M : Nat} {Ls : List Nat} {s : Ds} {lv lv' fv qv sv : Value} {n L : Nat} {c : Cn} (h : Desk lo w D M Ls s lv fv qv sv n) (hL : Box w L 90 (lnA c Ls.length)) (hlo : lo ≤ L) (hnew : L ∉ Ls)
    (ho : Only lv.ownBlock.toList w w') (hf : FB ptrC 1 86 lo w' lv' (Ls ++ [L])) (hfv : FV ptrC 1 86 lo w' fv (s.free.map fun i => Ls.getD i 0)) :
    Desk lo (w'.setCell ⟨D, 3, none⟩ lv') D M (Ls ++ [L]) { s with conns := s.conns ++ [c] } lv' fv qv sv n := by
  have hb' : Box w' D 76 #[.int .i64 s.epoch, .int .i64 s.next, .int .i64 s.now, lv, fv, .map (some M), qv, sv] := h.box.keepT (TSame.own h.lrow ho (by decide))
  have hm' : MapO w' M n := h.map.keep (ho.block M h.map.lt fun hx => by obtain ⟨cur, hb⟩ := h.lrow.box M hx; exact (h.map.ne hb) rfl)
  have o2 : Only [D] w' (w'.setCell ⟨D, 3, none⟩ lv') := (Only.refl _ _).setCell (by simp) _
  refine ⟨hb'.set 3 _, by simp [h.len], fun i hi hi2 => ?_, ?_, hf.keepT (TSame.only o2 hb' (by decide)), ?_, fun i hi => by have := h.fok i hi; simp; omega, (h.queue.keepT (TSame.own h.lrow ho (by decide))).keepT (TSame.only o2 hb' (by decide)), (h.sent.keepT (TSame.own h.lrow ho (by decide))).keepT (TSame.only o2 hb' (by decide)), hm'.keep (o2.block M hm'.lt (by simp; exact fun e => (hm'.ne hb') e.symm)), h.lows.1, h.lows.2.1, fun b hb => ?_⟩
  · by_cases hlt : i < Ls.length
    · have hlt2 : i < s.conns.length := by rw [← h.len]; exact hlt
      rw [List.getElem_append_left hlt]
      simp only [List.getElem_append_left hlt2]
      exact ((h.line i hlt hlt2).keepT (TSame.own h.lrow ho (by decide))).keepT (TSame.only o2 hb' (by decide))
    · have e : i = Ls.length := by simp at hi; omega
      subst e
      have e2 : Ls.length = s.conns.length := h.len
      rw [List.getElem_append_right (Nat.le_refl _)]
      simp only [Nat.sub_self, List.getElem_singleton]
      have : (s.conns ++ [c])[Ls.length]'(by simpa using hi2) = c := by
        rw [List.getElem_append_right (by omega)]
        simp
      simp only [this]
      exact (hL.keepT (TSame.own h.lrow ho (by decide))).keepT (TSame.only o2 hb' (by decide))
  · rw [List.nodup_append]
    exact ⟨h.nd, by simp, fun a ha b hb e => hnew (by simp at hb; subst hb; rw [← e]; exact ha)⟩
  · have e : (s.free.map fun i => (Ls ++ [L]).getD i 0) = s.free.map fun i => Ls.getD i 0 := List.map_congr_left fun i hi => getD_snoc (h.fok i hi)
    simp only [e]
    exact hfv.keepT (TSame.only o2 hb' (by decide))
  · rcases List.mem_append.1 hb with hb | hb
    · exact h.lows.2.2 b hb
    · simp at hb; omega
theorem Desk.addFree {lo : Nat} {w w' : World} {D M : Nat} {Ls : List Nat} {s : Ds} {lv fv fv' qv sv : Value} {n k : Nat} {xs : List Nat} (h : Desk lo w D M Ls s lv fv qv sv n) (hk : k < Ls.length)
    (hF : FB ptrC 1 86 lo w fv xs) (ho : Only fv.ownBlock.toList w w') (hf : FB ptrC 1 86 lo w' fv' ((s.free ++ [k]).map fun i => Ls.getD i 0)) (hl : FB ptrC 1 86 lo w' lv Ls) :
    Desk lo (w'.setCell ⟨D, 4, none⟩ fv') D M Ls { s with free := s.free ++ [k] } lv fv' qv sv n := by
  have hb' : Box w' D 76 #[.int .i64 s.epoch, .int .i64 s.next, .int .i64 s.now, lv, fv, .map (some M), qv, sv] := h.box.keepT (TSame.own hF ho (by decide))
  have hm' : MapO w' M n := h.map.keep (ho.block M h.map.lt fun hx => by obtain ⟨cur, hb⟩ := hF.box M hx; exact (h.map.ne hb) rfl)
  have o2 : Only [D] w' (w'.setCell ⟨D, 4, none⟩ fv') := (Only.refl _ _).setCell (by simp) _
  exact ⟨hb'.set 4 _, h.len, fun i hi h2 => ((h.line i hi h2).keepT (TSame.own hF ho (by decide))).keepT (TSame.only o2 hb' (by decide)), h.nd, hl.keepT (TSame.only o2 hb' (by decide)), (FV.of_own ptrC_len hf (Nat.le_refl _)).keepT (TSame.only o2 hb' (by decide)), fun i hi => by
    rcases List.mem_append.1 hi with hi | hi
    · exact h.fok i hi
    · simp at hi; omega, (h.queue.keepT (TSame.own hF ho (by decide))).keepT (TSame.only o2 hb' (by decide)), (h.sent.keepT (TSame.own hF ho (by decide))).keepT (TSame.only o2 hb' (by decide)), hm'.keep (o2.block M hm'.lt (by simp; exact fun e => (hm'.ne hb') e.symm)), h.lows⟩

/-- a desk as deskOf leaves it: what may still be appended to is owned -/
structure DeskN (lo : Nat) (w : World) (D M : Nat) (Ls : List Nat) (s : Ds) (lv fv qv sv : Value) (n : Nat) : Prop where
  desk : Desk lo w D M Ls s lv fv qv sv n
  ffree : FB ptrC 1 86 lo w fv (s.free.map fun i => Ls.getD i 0)
  sep : ∀ d ∈ fv.ownBlock.toList, d ∉ lv.ownBlock.toList
  fqueue : FB wnC 4 38 lo w qv s.queue
theorem DeskN.below {lo : Nat} {w w' : World} {D M : Nat} {Ls : List Nat} {s : Ds} {lv fv qv sv : Value} {n : Nat} (h : DeskN lo w D M Ls s lv fv qv sv n) (hb : Below w.heap.size w w') : DeskN lo w' D M Ls s lv fv qv sv n :=
  ⟨h.desk.below hb, h.ffree.below hb, h.sep, h.fqueue.below hb⟩
theorem DeskN.fresh {lo : Nat} {w : World} {M D : Nat} {e nx now : Int} {qs : List Wn} {qv : Value} (hM : MapO w M 0) (hq : FB wnC 4 38 lo w qv qs) (hD : Box w D 76 #[.int .i64 e, .int .i64 nx, .int .i64 now, .slice none 0 0, .slice none 0 0, .map (some M), qv, .slice none 0 0]) (hlM : lo ≤ M) (hlD : lo ≤ D) :
    DeskN lo w D M [] ⟨e, nx, now, [], [], qs, []⟩ (.slice none 0 0) (.slice none 0 0) qv (.slice none 0 0) 0 :=
  ⟨⟨hD, rfl, fun i h => absurd h (by simp), by simp, FB.nil _ _ _ _ _, .inl ⟨_, _, rfl, rfl⟩, by simp, FV.of_own wnC_len hq (Nat.le_refl _), FB.nil _ _ _ _ _, hM, hlD, hlM, by simp⟩, FB.nil _ _ _ _ _, by simp [Value.ownBlock], hq⟩
end Go.Proofs.YtfeccdhadgpnkaaDoor.Msg

namespace Go.Proofs.YtfeccdhadgpnkaaDoor.Msg
open Go.ChangeShapes Go.WideShapes Go.ChangeAt Go.RowKit
set_option linter.unusedVariables false
set_option linter.unusedSimpArgs false

/-- a piece of the code at which a walk stands still -/
def Stop (c : Code) : Code := c

def OfPost (x : Pl) (now : Int) (w : World) (en : Ending) (w' : World) : Prop :=
  ((okPl x = true ∧ nowB now = true ∧ ∃ D M Ls lv fv qv2 n, en = .returned (.pointer (some ⟨D, 0, none⟩)) ∧ DeskN w.heap.size w' D M Ls ⟨x.epoch, x.next, now, x.conns, freeIdx x.conns, x.queue, []⟩ lv fv qv2 (.slice none 0 0) n ∧ n ≤ x.conns.length) ∨ (¬ (okPl x = true ∧ nowB now = true) ∧ en = .returned (.pointer none))) ∧ Below w.heap.size w w'

set_option maxRecDepth 100000 in
set_option maxHeartbeats 6000000 in
theorem deskOf_any (x : Pl) (cv qv : Value) (now : Int) (w : World) {lo : Nat} (hp : PlAt lo w x cv qv) :
    Calls Tryd.prog 42 #[plV x cv qv, .int .i64 now] w (OfPost x now w) := by
  have HPI := hide (fun W (h : PlAt lo W x cv qv) => poolOkI_any x cv qv W h)
  obtain ⟨a1, c1, hf1, _⟩ := hp.1.form
  obtain ⟨a2, c2, hf2, _⟩ := hp.2.form
  subst hf1 hf2
  unfold plV at HPI ⊢
  obtain ⟨w1, hw1⟩ : ∃ w1, w.alloc (Obj.cells #[.int .i64 x.epoch, .int .i64 x.next, .slice a1 x.conns.length c1, .slice a2 x.queue.length c2] 33) = w1 := ⟨_, rfl⟩
  have HB1 : Hid (Below w.heap.size w w1) := by rw [← hw1]; exact (Below.refl _ _).alloc (Nat.le_refl _) _
  have HX1 : Hid (Box w1 w.heap.size 33 #[.int .i64 x.epoch, .int .i64 x.next, .slice a1 x.conns.length c1, .slice a2 x.queue.length c2]) := by rw [← hw1]; exact Box.new _ _ _
  have HPL := hide hp
  have HBAD : Hid (¬ (okPl x = true ∧ nowB now = true) → ∀ W, Below w.heap.size w W → OfPost x now w (.returned (.pointer none)) W) := fun h W hW => ⟨.inr ⟨h, rfl⟩, hW⟩
  obtain ⟨⟨p0, p1, p2, p3⟩, _⟩ := HX1.out.pool
  clear hp
  cases h1 : okPl x with
  | false =>
    rw [h1] at HPI
    have HG := hide (HBAD.out (by rw [h1]; simp))
    clear h1
    go_enter Tryd.func42, Tryd.ntmps42
    go_wp2_with fail
    refine (HPI.out _ (HPL.out.below HB1.out)).mono ?_
    rintro en W ⟨rfl, hbW⟩
    have HBW := hide (bjoin hbW HB1.out)
    clear hbW
    go_wp2_with fail
    go_ret
    exact HG.out _ HBW.out
  | true =>
    rw [h1] at HPI
    by_cases h2 : now < 0
    · have HG := hide (HBAD.out (fun h => by have := nowB_of h.2; omega))
      clear h1
      go_enter Tryd.func42, Tryd.ntmps42
      go_wp2_with fail
      refine (HPI.out _ (HPL.out.below HB1.out)).mono ?_
      rintro en W ⟨rfl, hbW⟩
      have HBW := hide (bjoin hbW HB1.out)
      clear hbW
      go_wp2_with fail
      go_ret
      exact HG.out _ HBW.out
    · by_cases h3 : 900000000 < now
      · have HG := hide (HBAD.out (fun h => by have := nowB_of h.2; omega))
        clear h1
        go_enter Tryd.func42, Tryd.ntmps42
        go_wp2_with fail
        refine (HPI.out _ (HPL.out.below HB1.out)).mono ?_
        rintro en W ⟨rfl, hbW⟩
        have HBW := hide (bjoin hbW HB1.out)
        clear hbW
        go_wp2_with fail
        go_ret
        exact HG.out _ HBW.out
      · have hnb : nowB now = true := decide_eq_true (by omega)
        have HOK := hide (And.intro h1 hnb)
        obtain ⟨g1, g2, g3, g4, g5, g6, g7⟩ := okPl_head_of h1
        have HCL := hide (fun W (h : WnsAt lo W (.slice a2 x.queue.length c2) x.queue) => clone_any x.queue _ W h (by omega))
        clear h1 hnb HBAD
        have hmm := @run_makeMap Tryd.prog
        go_enter Tryd.func42, Tryd.ntmps42
        go_wp2_with fail
        refine (HPI.out _ (HPL.out.below HB1.out)).mono ?_
        rintro en W ⟨rfl, hbW⟩
        have HBW := hide (bjoin hbW HB1.out)
        have HXW := hide (HX1.out.below hbW)
        have KS : Hid (∀ X, Below W.heap.size W X → X.cell? ⟨w.heap.size, 0, none⟩ = some (.int .i64 x.epoch) ∧ X.cell? ⟨w.heap.size, 1, none⟩ = some (.int .i64 x.next) ∧ X.cell? ⟨w.heap.size, 3, none⟩ = some (.slice a2 x.queue.length c2)) := fun X hX => by
          obtain ⟨⟨e0, e1, e2, e3⟩, _⟩ := (HXW.out.below hX).pool
          exact ⟨e0, e1, e3⟩
        have hk0 : Below W.heap.size W W.drew := (Below.refl _ _).drew
        obtain ⟨D1, hwd⟩ : ∃ D1, W.drew = D1 := ⟨_, rfl⟩
        have hk1 : Below W.heap.size W D1 := by rw [← hwd]; exact hk0
        have hk2 : ∀ o, Below W.heap.size W (D1.alloc o) := fun o => hk1.alloc hk1.size o
        have HQW : Hid (∀ X, Below W.heap.size W X → WnsAt lo X (.slice a2 x.queue.length c2) x.queue) := fun X hX => At.kept kept_flat HPL.out.2 (bjoin hX HBW.out)
        clear hbW p0 p1 p2 p3
        go_wp2_with fail
        go_region_held3 (fun X => X.cell? ⟨w.heap.size, 0, none⟩ = some (.int .i64 x.epoch) ∧ X.cell? ⟨w.heap.size, 1, none⟩ = some (.int .i64 x.next) ∧ X.cell? ⟨w.heap.size, 3, none⟩ = some (.slice a2 x.queue.length c2))
          (first | with_reducible exact KS.out _ hk0 | with_reducible exact KS.out _ hk1 | with_reducible exact KS.out _ (hk2 _) | with_reducible exact KS.out _ hS1 | with_reducible exact KS.out _ (hS2 _) | with_reducible exact KS.out _ (hS3 _ _))
          (first | (go_at_call 67; refine (HCL.out _ (by first | with_reducible exact HQW.out _ hk1 | with_reducible exact HQW.out _ (hk2 _))).mono ?_; rintro e W2 ⟨u, rfl, hu, hb2⟩; have hS1 : Below W.heap.size W W2 := (by first | with_reducible exact bjoin hb2 hk1 | with_reducible exact bjoin hb2 (hk2 _)); obtain ⟨au, cu, hfu, hcu⟩ := hu.form; subst hfu; have hS2 : ∀ o, Below W.heap.size W (W2.alloc o) := fun o => hS1.alloc hS1.size o; have hS3 : ∀ o o2, Below W.heap.size W ((W2.alloc o).alloc o2) := fun o o2 => (hS2 o).alloc (hS2 o).size o2))
        all_goals first
          | (
              have hu0 : FB wnC 4 38 w.heap.size W2 (.slice au x.queue.length cu) x.queue := hu.mono (by have := HBW.out.size; have := hk1.size; first | omega | (rw [Deep.nblk_alloc]; omega))
              have hmo : MapO W2 D1.heap.size 0 := ⟨_, (World.ownsMap_made D1 Tryd.prog 88 ptrElem).kept (row := none) ⟨hb2.os, hb2.tape, hb2.output, hb2.size, fun k hk _ => hb2.block k hk⟩ (by simp)⟩
              have hwn : W.heap.size ≤ D1.heap.size := hk1.size
              have hw0 : w.heap.size ≤ W.heap.size := HBW.out.size
              have hd1 : D1.heap.size ≤ W2.heap.size := by have := hb2.size; first | omega | (rw [Deep.nblk_alloc] at this; omega)
              have hBx : Below W.heap.size W W2 := by first | with_reducible exact hS1 | with_reducible exact hS2 _
              have hu1 : FB wnC 4 38 w.heap.size W2 (.slice au x.queue.length cu) x.queue := by first | with_reducible exact hu0 | exact hu0.below ((Below.refl _ _).alloc (Nat.le_refl _) _)
              have hlM : w.heap.size ≤ D1.heap.size := by omega
              have hlD : w.heap.size ≤ (W2).heap.size := by first | omega | (rw [Deep.nblk_alloc]; omega)
              obtain ⟨M, hM⟩ : ∃ M, D1.heap.size = M := ⟨_, rfl⟩
              obtain ⟨V, hV⟩ : ∃ V, W2 = V := ⟨_, rfl⟩
              obtain ⟨D, hD⟩ : ∃ D, V.heap.size = D := ⟨_, rfl⟩
              obtain ⟨W3, hW3⟩ : ∃ W3, V.alloc (Obj.cells #[.int .i64 x.epoch, .int .i64 x.next, .int .i64 now, .slice none 0 0, .slice none 0 0, .map (some M), .slice au x.queue.length cu, .slice none 0 0] 76) = W3 := ⟨_, rfl⟩
              rw [hM, hV] at hmo
              rw [hV] at hBx hu1 hlD
              rw [hM] at hlM
              rw [hD] at hlD
              have hb3 : Below V.heap.size V W3 := by rw [← hW3]; exact (Below.refl _ _).alloc (Nat.le_refl _) _
              have HN : Hid (DeskN w.heap.size W3 D M [] ⟨x.epoch, x.next, now, [], [], x.queue, []⟩ (.slice none 0 0) (.slice none 0 0) (.slice au x.queue.length cu) (.slice none 0 0) 0) := DeskN.fresh (hmo.keep (hb3.block M hmo.lt)) (hu1.below hb3) (by rw [← hW3, ← hD]; exact Box.new _ _ _) hlM hlD
              have HB3 : Hid (Below w.heap.size w W3) := bjoin (bjoin hb3 hBx) HBW.out
              have p2 : W3.cell? ⟨w.heap.size, 2, none⟩ = some (.slice a1 x.conns.length c1) := (((HXW.out.below hBx).below hb3).pool).1.2.2.1
              first | rw [hM, hV, hD, hW3] | (subst hV; rw [hM, hD, hW3]) | (simp only [hM]; simp only [hV]; simp only [hD]; rw [hW3])
              clear hu hu0 hmo hBx hu1 hb3 hS1 hS2 hS3 hb2 hlM hlD)
          | (
              have hu0 : FB wnC 4 38 w.heap.size W2 (.slice au x.queue.length cu) x.queue := hu.mono (by have := HBW.out.size; have := hk1.size; first | omega | (rw [Deep.nblk_alloc]; omega))
              have hmo : MapO (W2.alloc (Obj.map #[] 0)) W2.heap.size 0 := MapO.new W2
              have hwn : W.heap.size ≤ D1.heap.size := hk1.size
              have hw0 : w.heap.size ≤ W.heap.size := HBW.out.size
              have hd1 : D1.heap.size ≤ W2.heap.size := by have := hb2.size; first | omega | (rw [Deep.nblk_alloc] at this; omega)
              have hBx : Below W.heap.size W (W2.alloc (Obj.map #[] 0)) := by first | with_reducible exact hS1 | with_reducible exact hS2 _
              have hu1 : FB wnC 4 38 w.heap.size (W2.alloc (Obj.map #[] 0)) (.slice au x.queue.length cu) x.queue := by first | with_reducible exact hu0 | exact hu0.below ((Below.refl _ _).alloc (Nat.le_refl _) _)
              have hlM : w.heap.size ≤ W2.heap.size := by omega
              have hlD : w.heap.size ≤ (W2.alloc (Obj.map #[] 0)).heap.size := by first | omega | (rw [Deep.nblk_alloc]; omega)
              obtain ⟨M, hM⟩ : ∃ M, W2.heap.size = M := ⟨_, rfl⟩
              obtain ⟨V, hV⟩ : ∃ V, (W2.alloc (Obj.map #[] 0)) = V := ⟨_, rfl⟩
              obtain ⟨D, hD⟩ : ∃ D, V.heap.size = D := ⟨_, rfl⟩
              obtain ⟨W3, hW3⟩ : ∃ W3, V.alloc (Obj.cells #[.int .i64 x.epoch, .int .i64 x.next, .int .i64 now, .slice none 0 0, .slice none 0 0, .map (some M), .slice au x.queue.length cu, .slice none 0 0] 76) = W3 := ⟨_, rfl⟩
              rw [hM, hV] at hmo
              rw [hV] at hBx hu1 hlD
              rw [hM] at hlM
              rw [hD] at hlD
              have hb3 : Below V.heap.size V W3 := by rw [← hW3]; exact (Below.refl _ _).alloc (Nat.le_refl _) _
              have HN : Hid (DeskN w.heap.size W3 D M [] ⟨x.epoch, x.next, now, [], [], x.queue, []⟩ (.slice none 0 0) (.slice none 0 0) (.slice au x.queue.length cu) (.slice none 0 0) 0) := DeskN.fresh (hmo.keep (hb3.block M hmo.lt)) (hu1.below hb3) (by rw [← hW3, ← hD]; exact Box.new _ _ _) hlM hlD
              have HB3 : Hid (Below w.heap.size w W3) := bjoin (bjoin hb3 hBx) HBW.out
              have p2 : W3.cell? ⟨w.heap.size, 2, none⟩ = some (.slice a1 x.conns.length c1) := (((HXW.out.below hBx).below hb3).pool).1.2.2.1
              have hD2 : W2.heap.size + 1 = D := by rw [← hD, ← hV]; simp
              first | rw [hD2, hM, hV, hW3] | (simp only [hD2, hM, hV]; rw [hW3])
              clear hu hu0 hmo hBx hu1 hb3 hS1 hS2 hS3 hb2 hlM hlD)
        all_goals
          go_wp2_with fail
          go_loopg [34] x.conns.length (fun q i wx => ∃ (k : Nat) (Ls : List Nat) (lv fv : Value) (n : Nat), k ≤ x.conns.length ∧ q = x.conns.length - k ∧ i = .int .i64 k ∧ DeskN w.heap.size wx D M Ls ⟨x.epoch, x.next, now, x.conns.take k, freeIdx (x.conns.take k), x.queue, []⟩ lv fv (.slice au x.queue.length cu) (.slice none 0 0) n ∧ n ≤ k ∧ Below w.heap.size w wx)
          case atStart => exact ⟨0, [], _, _, 0, Nat.zero_le _, rfl, rfl, HN.out, Nat.le_refl _, HB3.out⟩
          case round =>
            obtain ⟨k, Ls, lv, fv, n, hk, rfl, rfl, hdn, hnk, hb⟩ := hrel
            by_cases hlt : k < x.conns.length
            · obtain ⟨b, off, rfl, hbl, hel, hz⟩ := at_place HPL.out.1 hlt
              have hi : (k : Int) < (x.conns.length : Int) := by omega
              obtain ⟨c, hc⟩ : ∃ c, x.conns[k] = c := ⟨_, rfl⟩
              rw [hc] at hel hz
              have hown : ∀ j (hj : j < 7), wr.cell? ⟨b, off + k * 7 + j, none⟩ = some ((cnC c)[j]'(by rw [cnC_len]; exact hj)) := fun j hj => by
                rw [hb.cell (p := ⟨b, off + k * 7 + j, none⟩) hbl]
                exact hel j (by rw [cnC_len]; exact hj)
              have g0 : wr.cell? ⟨b, off + k * 7, none⟩ = some (.bool c.busy) := hown 0 (by omega)
              have g1 : wr.cell? ⟨b, off + k * 7 + 1, none⟩ = some (.string c.control) := hown 1 (by omega)
              have g2 : wr.cell? ⟨b, off + k * 7 + 2, none⟩ = some (.int .i64 c.want.client) := hown 2 (by omega)
              have g3 : wr.cell? ⟨b, off + k * 7 + 3, none⟩ = some (.string c.want.tag) := hown 3 (by omega)
              have g4 : wr.cell? ⟨b, off + k * 7 + 4, none⟩ = some (.string c.want.query) := hown 4 (by omega)
              have g5 : wr.cell? ⟨b, off + k * 7 + 5, none⟩ = some (.string c.want.pointer) := hown 5 (by omega)
              have g6 : wr.cell? ⟨b, off + k * 7 + 6, none⟩ = some (.int .i64 c.due) := hown 6 (by omega)
              have hlen : Ls.length = k := by have := hdn.desk.len; simp only [List.length_take] at this; omega
              obtain ⟨V1, hV1⟩ : ∃ V, wr.alloc (Obj.cells #[.bool c.busy, .string c.control, .int .i64 c.want.client, .string c.want.tag, .string c.want.query, .string c.want.pointer, .int .i64 c.due] 85) = V := ⟨_, rfl⟩
              have hb1 : Below wr.heap.size wr V1 := by rw [← hV1]; exact (Below.refl _ _).alloc (Nat.le_refl _) _
              have hbx1 : Box V1 wr.heap.size 85 #[.bool c.busy, .string c.control, .int .i64 c.want.client, .string c.want.tag, .string c.want.query, .string c.want.pointer, .int .i64 c.due] := by rw [← hV1]; exact Box.new _ _ _
              have m0 : V1.cell? ⟨wr.heap.size, 0, none⟩ = some (.bool c.busy) := hbx1.cell 0 (by simp)
              have m1 : V1.cell? ⟨wr.heap.size, 1, none⟩ = some (.string c.control) := hbx1.cell 1 (by simp)
              have m2 : V1.cell? ⟨wr.heap.size, 2, none⟩ = some (.int .i64 c.want.client) := hbx1.cell 2 (by simp)
              have m3 : V1.cell? ⟨wr.heap.size, 3, none⟩ = some (.string c.want.tag) := hbx1.cell 3 (by simp)
              have m4 : V1.cell? ⟨wr.heap.size, 4, none⟩ = some (.string c.want.query) := hbx1.cell 4 (by simp)
              have m5 : V1.cell? ⟨wr.heap.size, 5, none⟩ = some (.string c.want.pointer) := hbx1.cell 5 (by simp)
              have m6 : V1.cell? ⟨wr.heap.size, 6, none⟩ = some (.int .i64 c.due) := hbx1.cell 6 (by simp)
              obtain ⟨V2, hV2⟩ : ∃ V, V1.alloc (Obj.cells #[.bool c.busy, .string c.control, .int .i64 c.want.client, .string c.want.tag, .string c.want.query, .string c.want.pointer, .int .i64 c.due, .int .i64 (k : Int)] 90) = V := ⟨_, rfl⟩
              have hb2 : Below V1.heap.size V1 V2 := by rw [← hV2]; exact (Below.refl _ _).alloc (Nat.le_refl _) _
              have hbL : Box V2 V1.heap.size 90 (lnA c k) := by rw [← hV2]; exact Box.new _ _ _
              have hbb : Below wr.heap.size wr V2 := bjoin hb2 hb1
              have hd2 := hdn.below hbb
              have hs1 : wr.heap.size ≤ V1.heap.size := hb1.size
              have hs0 : w.heap.size ≤ wr.heap.size := hb.size
              have hsV : V1.heap.size < V2.heap.size := hbL.lt
              obtain ⟨L, hL⟩ : ∃ L, V1.heap.size = L := ⟨_, rfl⟩
              rw [hL] at hbL hs1 hsV
              have hnew : L ∉ Ls := fun h => by
                obtain ⟨i, hi, e⟩ := List.getElem_of_mem h
                have := (hdn.desk.line i hi (by rw [← hdn.desk.len]; exact hi)).lt
                omega
              obtain ⟨v3, V3, hr3, hF3, o3, hat3⟩ := app1 Tryd.underlying73 info_Ptr rfl (by decide) ptrC_len ptrC_one hd2.desk.lrow 73 L (by omega) (by omega) (by omega)
              have hsepF : ∀ d ∈ fv.ownBlock.toList, V3.heap[d]? = V2.heap[d]? := fun d hd => o3.block d (hd2.ffree.own d hd).2 (hd2.sep d hd)
              have hF3f := hd2.ffree.keep hsepF
              have hd4 := hd2.desk.addLine (c := c) (by rw [hlen]; exact hbL) (by omega) hnew o3 hF3 (FV.of_own ptrC_len hF3f (Nat.le_refl _))
              simp only at hd4
              rw [← hc, take_snoc x.conns k hlt] at hd4
              obtain ⟨V4, hV4⟩ : ∃ V, V3.setCell ⟨D, 3, none⟩ v3 = V := ⟨_, rfl⟩
              rw [hV4] at hd4
              have hbox3 : Box V3 D 76 _ := hd2.desk.box.keepT (TSame.own hd2.desk.lrow o3 (by decide))
              have oD4 : Only [D] V3 V4 := by rw [← hV4]; exact (Only.refl _ _).setCell (by simp) _
              have hF4f : FB ptrC 1 86 w.heap.size V4 fv _ := hF3f.keepT (TSame.only oD4 hbox3 (by decide))
              have hQ4 : FB wnC 4 38 w.heap.size V4 (.slice au x.queue.length cu) x.queue := (hd2.fqueue.keepT (TSame.own hd2.desk.lrow o3 (by decide))).keepT (TSame.only oD4 hbox3 (by decide))
              have hbl4 : Below w.heap.size w V4 := by
                have c1 := bjoin hbb hb
                have c2 := c1.trans (o3.below c1.size fun d hd => (hd2.desk.lrow.own d hd).1)
                rw [← hV4]
                exact c2.setCell (by have := hd2.desk.lows.1; simpa using this) _
              have hL4 : Box V4 L 90 (lnA c k) := ((hbL.keepT (TSame.own hd2.desk.lrow o3 (by decide)))).keepT (TSame.only oD4 hbox3 (by decide))
              have hsep4 : ∀ d ∈ fv.ownBlock.toList, d ∉ v3.ownBlock.toList := fun d hd h => by
                rcases hat3 with h3 | ⟨g, h3, hg⟩
                · rw [h3] at h; exact hd2.sep d hd h
                · rw [h3] at h; simp at h; subst h; have := (hd2.ffree.own _ hd).2; omega
              have q3 : V2.cell? ⟨D, 3, none⟩ = some lv := hd2.desk.cells.1.2.2.2.1
              have r3 : V3.cell? ⟨D, 3, none⟩ = some lv := hbox3.cell 3 (by simp)
              have rf3 := hbox3.frozen 3
              have q5 : V4.cell? ⟨L, 0, none⟩ = some (.bool c.busy) := hL4.line7.1.1
              obtain ⟨al, cl, hlf, _⟩ := hd2.desk.lrow.form
              obtain ⟨a3, c3, hf3, _⟩ := hF3.form
              rw [List.length_append, List.length_singleton] at hf3
              have hr3' : (Builtin.append_ #[73, 73] 73 #[lv, .slice (some ⟨V2.heap.size, 0, none⟩) 1 1]).run Tryd.prog (V2.alloc (.cells #[.pointer (some ⟨L, 0, none⟩)] 86)) = .ok v3 V3 := hr3
              subst hlf hf3
              have HD4 := hide hd4
              have HF4 := hide hF4f
              have HQ4 := hide hQ4
              have HL4 := hide hL4
              have HSEP := hide hsep4
              have HBL := hide hbl4
              have HCZ := hide hz
              have HC := hide hc
              have hszb : c.control.size ≤ 9223372036854775807 := hz.1
              have hLlen : (Ls ++ [L]).length = k + 1 := by simp [hlen]
              have hLk : (Ls ++ [L]).getD k 0 = L := by rw [List.getD_eq_getElem?_getD, List.getElem?_append_right (by omega), hlen]; simp
              clear hel hown hb1 hbx1 hb2 hbL hbb hd2 hr3 hF3 o3 hat3 hsepF hF3f hd4 hbox3 oD4 hF4f hQ4 hbl4 hL4 hsep4 hc hz hdn hb
              cases hbz : c.busy with
              | true =>
                have q4 : V4.cell? ⟨D, 5, none⟩ = some (.map (some M)) := HD4.out.cells.1.2.2.2.2.2.1
                have KS5 : Hid (∀ X, Below V4.heap.size V4 X → X.cell? ⟨D, 5, none⟩ = some (.map (some M))) := fun X hX => (HD4.out.below hX).cells.1.2.2.2.2.2.1
                have hD5' : Below V4.heap.size V4 V4.drew := (Below.refl _ _).drew
                obtain ⟨D5, hwd5⟩ : ∃ D5, V4.drew = D5 := ⟨_, rfl⟩
                have hD5 : Below V4.heap.size V4 D5 := by rw [← hwd5]; exact hD5'
                have HPUT : Hid (∀ X, Below V4.heap.size V4 X → ∃ W', (Instr.mapUpdate 74 (.map (some M)) (.agg #[.int .i64 (k : Int), .string c.control]) (.pointer (some ⟨L, 0, none⟩))).run Tryd.prog X = .ok () W' ∧ MapO W' M (n + 1) ∧ Only [M] X W') := fun X hX => (HD4.out.below hX).map.put (by omega) (k : Int) c.control L (by simp [Lit.wf, IntKind.min, IntKind.max, IntKind.signed, IntKind.bits]; omega) hszb
                have hfix : freeIdx (x.conns.take (k + 1)) = freeIdx (x.conns.take k) := by
                  rw [← take_snoc x.conns k hlt, HC.out]
                  unfold freeIdx
                  rw [freeGo_snoc, hbz]
                  simp
                have HFIX := hide hfix
                clear hfix
                rw [hbz] at q5
                have HLEN := hide hlen
                clear hbz hlen hLlen
                go_wp2_with (first | (at_builtin; refine wpList_app rfl _ _ 73 rfl hr3' (by first | rfl | simp [Act.eval, Act.put]) (by first | rfl | simp [Act.eval, Act.put]) ?_))
                go_region_held3 (fun X => X.cell? ⟨D, 5, none⟩ = some (.map (some M)))
                  (first | with_reducible exact KS5.out _ hD5' | with_reducible exact KS5.out _ hD5 | with_reducible exact KS5.out _ hS5 | with_reducible exact hcM6)
                  (first | (go_at_call 68; refine (lineKey_any c k L _ (HL4.out.below hD5)).mono ?_; rintro e V5 ⟨rfl, hb5⟩; have hS5 : Below V4.heap.size V4 V5 := bjoin hb5 hD5; obtain ⟨V6, hr6, hm6, ho6⟩ := HPUT.out V5 hS5; have hcM6 : V6.cell? ⟨D, 5, none⟩ = some (.map (some M)) := ((HD4.out.below hS5).mapSet ho6 hm6).cells.1.2.2.2.2.2.1))
                have hlen := HLEN.out
                have hd6 := (HD4.out.below hS5).mapSet ho6 hm6
                have HNX : Hid (DeskN w.heap.size V6 D M (Ls ++ [L]) ⟨x.epoch, x.next, now, x.conns.take (k + 1), freeIdx (x.conns.take (k + 1)), x.queue, []⟩ (.slice a3 (Ls.length + 1) c3) fv (.slice au x.queue.length cu) (.slice none 0 0) (n + 1) ∧ Below w.heap.size w V6) := by
                  rw [HFIX.out]
                  refine ⟨⟨hd6, ?_, HSEP.out, ?_⟩, ?_⟩
                  · have e : ((freeIdx (x.conns.take k)).map fun i => (Ls ++ [L]).getD i 0) = (freeIdx (x.conns.take k)).map fun i => Ls.getD i 0 := List.map_congr_left fun i hi => getD_snoc (by have := freeGo_lt 0 _ i hi; simp only [List.length_take] at this; omega)
                    simp only [e]
                    exact (HF4.out.below hS5).keepT (TSame.map ho6 (HD4.out.below hS5).map)
                  · exact (HQ4.out.below hS5).keepT (TSame.map ho6 (HD4.out.below hS5).map)
                  · have c1 := bjoin hS5 HBL.out
                    exact c1.trans (ho6.below c1.size fun d hd => by simp at hd; have := HD4.out.lows.2.1; omega)
                clear hd6 hr6 hm6 ho6 hcM6 hb5
                go_wp2_with fail
                go_roundg (x.conns.length - (k + 1))
                case measure => omega
                case rel => exact ⟨k + 1, Ls ++ [L], _, fv, n + 1, by omega, rfl, by go_num, HNX.out.1, by omega, HNX.out.2⟩
              | false =>
                obtain ⟨v5, V5, hr5, hF5, o5, hat5⟩ := app1 Tryd.underlying73 info_Ptr rfl (by decide) ptrC_len ptrC_one HF4.out 73 L HBL.out.size (by have := freeGo_lt 0 (x.conns.take k); rw [List.length_map]; exact Nat.le_trans (freeGo_len 0 _) (by simp only [List.length_take]; omega)) (by omega)
                have HFIX : Hid (freeIdx (x.conns.take (k + 1)) = freeIdx (x.conns.take k) ++ [k]) := by
                  rw [← take_snoc x.conns k hlt, HC.out]
                  unfold freeIdx
                  rw [freeGo_snoc, hbz]
                  simp only [List.length_take]
                  rw [show 0 + min k x.conns.length = k by omega]
                  rfl
                have he : ((freeIdx (x.conns.take k)).map fun i => (Ls ++ [L]).getD i 0) = (freeIdx (x.conns.take k)).map fun i => Ls.getD i 0 := List.map_congr_left fun i hi => getD_snoc (by have := freeGo_lt 0 _ i hi; simp only [List.length_take] at this; omega)
                have hF5' : FB ptrC 1 86 w.heap.size V5 v5 ((freeIdx (x.conns.take k) ++ [k]).map fun i => (Ls ++ [L]).getD i 0) := by
                  rw [List.map_append, he, List.map_cons, List.map_nil, hLk]
                  exact hF5
                have hl5 := HD4.out.lrow.only o5 (fun d hd h => HSEP.out d h hd)
                have hd6 := HD4.out.addFree (k := k) (by omega) HF4.out o5 hF5' hl5
                obtain ⟨V6, hV6⟩ : ∃ V, V5.setCell ⟨D, 4, none⟩ v5 = V := ⟨_, rfl⟩
                have hbox5 : Box V5 D 76 _ := HD4.out.box.keepT (TSame.own HF4.out o5 (by decide))
                have oD6 : Only [D] V5 V6 := by rw [← hV6]; exact (Only.refl _ _).setCell (by simp) _
                have HNX : Hid (DeskN w.heap.size V6 D M (Ls ++ [L]) ⟨x.epoch, x.next, now, x.conns.take (k + 1), freeIdx (x.conns.take (k + 1)), x.queue, []⟩ (.slice a3 (Ls.length + 1) c3) v5 (.slice au x.queue.length cu) (.slice none 0 0) n ∧ Below w.heap.size w V6) := by
                  rw [HFIX.out]
                  refine ⟨⟨by rw [← hV6]; exact hd6, hF5'.keepT (TSame.only oD6 hbox5 (by decide)), fun d hd h => ?_, (HQ4.out.keepT (TSame.own HF4.out o5 (by decide))).keepT (TSame.only oD6 hbox5 (by decide))⟩, ?_⟩
                  · rcases hat5 with h5 | ⟨g, h5, hg⟩
                    · rw [h5] at hd; exact HSEP.out d hd h
                    · rw [h5] at hd; simp at hd; subst hd; have := (HD4.out.lrow.own _ h).2; omega
                  · have c2 := HBL.out.trans (o5.below HBL.out.size fun d hd => (HF4.out.own d hd).1)
                    rw [← hV6]
                    exact c2.setCell (by have := HD4.out.lows.1; simpa using this) _
                have q6 : V4.cell? ⟨D, 4, none⟩ = some fv := HD4.out.cells.1.2.2.2.2.1
                have r6 : V5.cell? ⟨D, 4, none⟩ = some fv := hbox5.cell 4 (by simp)
                have rf6 := hbox5.frozen 4
                have hr5' : (Builtin.append_ #[73, 73] 73 #[fv, .slice (some ⟨V4.heap.size, 0, none⟩) 1 1]).run Tryd.prog (V4.alloc (.cells #[.pointer (some ⟨L, 0, none⟩)] 86)) = .ok v5 V5 := hr5
                obtain ⟨a5, c5, hf5, _⟩ := HF4.out.form
                rw [List.length_map] at hf5
                obtain ⟨fl, hfl⟩ : ∃ fl, (freeIdx (x.conns.take k)).length = fl := ⟨_, rfl⟩
                rw [hfl] at hf5
                obtain ⟨a6, c6, hf6, _⟩ := hF5.form
                rw [List.length_append, List.length_singleton, List.length_map] at hf6
                rw [hfl] at hf6
                clear hfl
                subst hf5 hf6
                rw [hbz] at q5
                have HLEN := hide hlen
                clear hbz hlen hLlen
                have HR5 := hide hr5'
                have Q6 := hide (And.intro q6 (And.intro r6 rf6))
                clear hr5 hF5 o5 hat5 hF5' hl5 hd6 hbox5 oD6 he hr5' q6 r6 rf6
                clear hLk hnew
                conv in (Code.region 11 _ _) => change Stop _
                go_wp2_with (first | (at_builtin; refine wpList_app rfl _ _ 73 rfl hr3' (by first | rfl | simp [Act.eval, Act.put]) (by first | rfl | simp [Act.eval, Act.put]) ?_))
                have hr5' := HR5.out
                obtain ⟨q6, r6, rf6⟩ := Q6.out
                clear hr3' q3 r3 rf3 q5 g0 g1 g2 g3 g4 g5 g6 m0 m1 m2 m3 m4 m5 m6
                unfold Stop
                go_wp2_with (first | (at_builtin; refine wpList_app rfl _ _ 73 rfl hr5' (by first | rfl | simp [Act.eval, Act.put]) (by first | rfl | simp [Act.eval, Act.put]) ?_))
                go_roundg (x.conns.length - (k + 1))
                case measure => omega
                case rel => exact ⟨k + 1, Ls ++ [L], _, _, n, by omega, rfl, by go_num, HNX.out.1, by omega, HNX.out.2⟩
            · obtain rfl : k = x.conns.length := by omega
              rw [List.take_length] at hdn
              have HDN := hide hdn
              have HB := hide hb
              clear hdn hb
              go_wp2_with fail
              go_ret
              exact ⟨.inl ⟨HOK.out.1, HOK.out.2, D, M, Ls, lv, fv, _, n, rfl, HDN.out, hnk⟩, HB.out⟩
end Go.Proofs.YtfeccdhadgpnkaaDoor.Msg
