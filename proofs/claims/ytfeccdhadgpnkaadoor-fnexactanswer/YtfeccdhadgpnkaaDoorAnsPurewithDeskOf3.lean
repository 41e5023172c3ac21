import Derived.Test.YtfeccdhadgpnkaaDoorExpPurewithDeskMap
import Derived.Test.YtfeccdhadgpnkaaDoorDeskOfwithDeskOf2
namespace Go.Proofs.YtfeccdhadgpnkaaDoor.Msg
open Go.ChangeShapes Go.WideShapes Go.ChangeAt Go.RowKit
set_option linter.unusedVariables false
set_option linter.unusedSimpArgs false

/-- the line that a reply fits -/
def hitN (cs : List Cn) (conn : Int) (control tag : ByteArray) : Option Nat := match cs[conn.toNat]? with
  | some c => if 0 ≤ conn ∧ c.busy = true ∧ control = c.control ∧ c.want.tag = tag then some conn.toNat else none
  | none => none
def ansP (x : Pl) (conn : Int) (control tag : ByteArray) (now : Int) : Pl × List St × Wn × Bool :=
  if okPl x = true ∧ nowB now = true then
    match hitN x.conns conn control tag with
    | some k => ((serveA now ⟨x.epoch, x.next, x.conns.set k cn0, x.queue⟩).1, (serveA now ⟨x.epoch, x.next, x.conns.set k cn0, x.queue⟩).2, (x.conns.getD k cn0).want, true)
    | none => (x, [], wn0, false)
  else (pl0, [], wn0, false)
theorem ansP_bad {x : Pl} {conn : Int} {control tag : ByteArray} {now : Int} (h : ¬ (okPl x = true ∧ nowB now = true)) : ansP x conn control tag now = (pl0, [], wn0, false) := if_neg h
theorem ansP_none {x : Pl} {conn : Int} {control tag : ByteArray} {now : Int} (h : okPl x = true ∧ nowB now = true) (hn : hitN x.conns conn control tag = none) : ansP x conn control tag now = (x, [], wn0, false) := by
  unfold ansP; rw [if_pos h, hn]
theorem ansP_some {x : Pl} {conn : Int} {control tag : ByteArray} {now : Int} (h : okPl x = true ∧ nowB now = true) {k : Nat} (hn : hitN x.conns conn control tag = some k) : ansP x conn control tag now = ((serveA now ⟨x.epoch, x.next, x.conns.set k cn0, x.queue⟩).1, (serveA now ⟨x.epoch, x.next, x.conns.set k cn0, x.queue⟩).2, (x.conns.getD k cn0).want, true) := by
  unfold ansP; rw [if_pos h, hn]
theorem hitN_yes {cs : List Cn} {k : Nat} (hk : k < cs.length) {conn : Int} {control tag : ByteArray} (h0 : conn = (k : Int)) (hb : cs[k].busy = true) (hc : control = cs[k].control) (ht : cs[k].want.tag = tag) : hitN cs conn control tag = some k := by
  subst h0
  unfold hitN
  rw [show ((k : Int)).toNat = k by omega, List.getElem?_eq_getElem hk]
  simp only
  rw [if_pos ⟨by omega, hb, hc, ht⟩]
/-- what the map answers, and what fits -/
theorem outF_cases (cs : List Cn) (Ls : List Nat) (hl : Ls.length = cs.length) (conn : Int) (control tag : ByteArray) :
    (outF cs Ls conn control = none ∧ hitN cs conn control tag = none) ∨ ∃ k, ∃ (hk : k < cs.length) (hk2 : k < Ls.length), conn = (k : Int) ∧ cs[k].busy = true ∧ control = cs[k].control ∧ outF cs Ls conn control = some Ls[k] ∧ (cs[k].want.tag ≠ tag → hitN cs conn control tag = none) := by
  by_cases h : ∃ k, ∃ (hk : k < cs.length), conn = (k : Int) ∧ cs[k].busy = true ∧ control = cs[k].control
  · obtain ⟨k, hk, h0, hb, hc⟩ := h
    right
    refine ⟨k, hk, by omega, h0, hb, hc, ?_, fun ht => ?_⟩
    · unfold outF
      rw [show conn.toNat = k by omega, List.getElem?_eq_getElem hk]
      simp only
      rw [if_pos ⟨by omega, hb, hc⟩, List.getElem?_eq_getElem (by omega)]
    · unfold hitN
      rw [show conn.toNat = k by omega, List.getElem?_eq_getElem hk]
      simp only
      rw [if_neg (fun h => ht h.2.2.2)]
  · left
    have key : ∀ c, cs[conn.toNat]? = some c → ¬ (0 ≤ conn ∧ c.busy = true ∧ control = c.control) := fun c hc h2 => by
      obtain ⟨hlt, e⟩ := List.getElem?_eq_some_iff.1 hc
      exact h ⟨conn.toNat, hlt, by omega, by rw [e]; exact h2.2.1, by rw [e]; exact h2.2.2⟩
    unfold outF hitN
    cases hc : cs[conn.toNat]? with
    | none => exact ⟨rfl, rfl⟩
    | some c =>
      simp only
      exact ⟨if_neg (key c hc), if_neg fun h2 => key c hc ⟨h2.1, h2.2.1, h2.2.2.1⟩⟩
/-- a desk of which one line was freed serves as the pool does -/
theorem relD_serves {x : Pl} (now : Int) (h : okPl x = true) {k : Nat} (hk : k < x.conns.length) : (relD ⟨x.epoch, x.next, now, x.conns, freeIdx x.conns, x.queue, []⟩ k).free = freeIdx (relD ⟨x.epoch, x.next, now, x.conns, freeIdx x.conns, x.queue, []⟩ k).conns ∨ (relD ⟨x.epoch, x.next, now, x.conns, freeIdx x.conns, x.queue, []⟩ k).queue = [] := by
  by_cases hq : x.queue = []
  · exact .inr hq
  · left
    have hb := okPl_busy h hq
    simp only [relD]
    unfold freeIdx
    rw [freeGo_busy 0 x.conns hb, List.nil_append]
    have key : ∀ (i : Nat) (cs : List Cn) (j : Nat), (∀ c ∈ cs, c.busy = true) → j < cs.length → freeGo i (cs.set j cn0) = [i + j] := by
      intro i cs
      induction cs generalizing i with
      | nil => intro j _ hj; simp at hj
      | cons c cs ih =>
        intro j hall hj
        cases j with
        | zero =>
          simp only [List.set_cons_zero, freeGo]
          rw [freeGo_busy (i + 1) cs fun d hd => hall d (List.mem_cons_of_mem _ hd)]
          simp [cn0]
        | succ j =>
          simp only [List.set_cons_succ, freeGo]
          rw [hall c (by simp), if_pos rfl, ih (i + 1) j (fun d hd => hall d (List.mem_cons_of_mem _ hd)) (by simp at hj; omega)]
          congr 1
          omega
    rw [key 0 x.conns k hb hk]
    simp
theorem relD_Z {s : Ds} (k : Nat) (h : DsZ s) : DsZ (relD s k) := by
  refine ⟨fun c hc => ?_, h.2.1, h.2.2⟩
  rcases List.mem_or_eq_of_mem_set hc with h1 | h1
  · exact h.1 c h1
  · rw [h1]; exact cn0Z
end Go.Proofs.YtfeccdhadgpnkaaDoor.Msg

namespace Go.Proofs.YtfeccdhadgpnkaaDoor.Msg
open Go.ChangeShapes Go.WideShapes Go.ChangeAt Go.RowKit
set_option linter.unusedVariables false
set_option linter.unusedSimpArgs false

/-- what deskOf gives, and what its map holds -/
def OfPost3 (x : Pl) (now : Int) (w : World) (en : Ending) (w' : World) : Prop :=
  ((okPl x = true ∧ nowB now = true ∧ ∃ D M Ls lv fv qv2 n, en = .returned (.pointer (some ⟨D, 0, none⟩)) ∧ DeskN w.heap.size w' D M Ls ⟨x.epoch, x.next, now, x.conns, freeIdx x.conns, x.queue, []⟩ lv fv qv2 (.slice none 0 0) n ∧ n ≤ x.conns.length ∧ MapF w' M n (outF x.conns Ls)) ∨ (¬ (okPl x = true ∧ nowB now = true) ∧ en = .returned (.pointer none))) ∧ Below w.heap.size w w'

set_option maxRecDepth 100000 in
set_option maxHeartbeats 6000000 in
theorem deskOf3_any (x : Pl) (cv qv : Value) (now : Int) (w : World) {lo : Nat} (hp : PlAt lo w x cv qv) :
    Calls Tryd.prog 42 #[plV x cv qv, .int .i64 now] w (OfPost3 x now w) := by
  have HPI := hide (fun W (h : PlAt lo W x cv qv) => poolOkI_any x cv qv W h)
  obtain ⟨a1, c1, hf1, _⟩ := hp.1.form
  obtain ⟨a2, c2, hf2, _⟩ := hp.2.form
  subst hf1 hf2
  unfold plV at HPI ⊢
  obtain ⟨w1, hw1⟩ : ∃ w1, w.alloc (Obj.cells #[.int .i64 x.epoch, .int .i64 x.next, .slice a1 x.conns.length c1, .slice a2 x.queue.length c2] 33) = w1 := ⟨_, rfl⟩
  have HB1 : Hid (Below w.heap.size w w1) := by rw [← hw1]; exact (Below.refl _ _).alloc (Nat.le_refl _) _
  have HX1 : Hid (Box w1 w.heap.size 33 #[.int .i64 x.epoch, .int .i64 x.next, .slice a1 x.conns.length c1, .slice a2 x.queue.length c2]) := by rw [← hw1]; exact Box.new _ _ _
  have HPL := hide hp
  have HBAD : Hid (¬ (okPl x = true ∧ nowB now = true) → ∀ W, Below w.heap.size w W → OfPost3 x now w (.returned (.pointer none)) W) := fun h W hW => ⟨.inr ⟨h, rfl⟩, hW⟩
  obtain ⟨⟨p0, p1, p2, p3⟩, _⟩ := HX1.out.pool
  clear hp
  cases h1 : okPl x with
  | false =>
    rw [h1] at HPI
    have HG := hide (HBAD.out (by rw [h1]; simp))
    clear h1
    go_enter Tryd.func42, Tryd.ntmps42
    go_wp2_with fail
    refine (HPI.out _ (HPL.out.below HB1.out)).mono ?_
    rintro en W ⟨rfl, hbW⟩
    have HBW := hide (bjoin hbW HB1.out)
    clear hbW
    go_wp2_with fail
    go_ret
    exact HG.out _ HBW.out
  | true =>
    rw [h1] at HPI
    by_cases h2 : now < 0
    · have HG := hide (HBAD.out (fun h => by have := nowB_of h.2; omega))
      clear h1
      go_enter Tryd.func42, Tryd.ntmps42
      go_wp2_with fail
      refine (HPI.out _ (HPL.out.below HB1.out)).mono ?_
      rintro en W ⟨rfl, hbW⟩
      have HBW := hide (bjoin hbW HB1.out)
      clear hbW
      go_wp2_with fail
      go_ret
      exact HG.out _ HBW.out
    · by_cases h3 : 900000000 < now
      · have HG := hide (HBAD.out (fun h => by have := nowB_of h.2; omega))
        clear h1
        go_enter Tryd.func42, Tryd.ntmps42
        go_wp2_with fail
        refine (HPI.out _ (HPL.out.below HB1.out)).mono ?_
        rintro en W ⟨rfl, hbW⟩
        have HBW := hide (bjoin hbW HB1.out)
        clear hbW
        go_wp2_with fail
        go_ret
        exact HG.out _ HBW.out
      · have hnb : nowB now = true := decide_eq_true (by omega)
        have HOK := hide (And.intro h1 hnb)
        obtain ⟨g1, g2, g3, g4, g5, g6, g7⟩ := okPl_head_of h1
        have HCL := hide (fun W (h : WnsAt lo W (.slice a2 x.queue.length c2) x.queue) => clone_any x.queue _ W h (by omega))
        clear h1 hnb HBAD
        have hmm := @run_makeMap Tryd.prog
        go_enter Tryd.func42, Tryd.ntmps42
        go_wp2_with fail
        refine (HPI.out _ (HPL.out.below HB1.out)).mono ?_
        rintro en W ⟨rfl, hbW⟩
        have HBW := hide (bjoin hbW HB1.out)
        have HXW := hide (HX1.out.below hbW)
        have KS : Hid (∀ X, Below W.heap.size W X → X.cell? ⟨w.heap.size, 0, none⟩ = some (.int .i64 x.epoch) ∧ X.cell? ⟨w.heap.size, 1, none⟩ = some (.int .i64 x.next) ∧ X.cell? ⟨w.heap.size, 3, none⟩ = some (.slice a2 x.queue.length c2)) := fun X hX => by
          obtain ⟨⟨e0, e1, e2, e3⟩, _⟩ := (HXW.out.below hX).pool
          exact ⟨e0, e1, e3⟩
        have hk0 : Below W.heap.size W W.drew := (Below.refl _ _).drew
        obtain ⟨D1, hwd⟩ : ∃ D1, W.drew = D1 := ⟨_, rfl⟩
        have hk1 : Below W.heap.size W D1 := by rw [← hwd]; exact hk0
        have hk2 : ∀ o, Below W.heap.size W (D1.alloc o) := fun o => hk1.alloc hk1.size o
        have HQW : Hid (∀ X, Below W.heap.size W X → WnsAt lo X (.slice a2 x.queue.length c2) x.queue) := fun X hX => At.kept kept_flat HPL.out.2 (bjoin hX HBW.out)
        clear hbW p0 p1 p2 p3
        go_wp2_with fail
        go_region_held3 (fun X => X.cell? ⟨w.heap.size, 0, none⟩ = some (.int .i64 x.epoch) ∧ X.cell? ⟨w.heap.size, 1, none⟩ = some (.int .i64 x.next) ∧ X.cell? ⟨w.heap.size, 3, none⟩ = some (.slice a2 x.queue.length c2))
          (first | with_reducible exact KS.out _ hk0 | with_reducible exact KS.out _ hk1 | with_reducible exact KS.out _ (hk2 _) | with_reducible exact KS.out _ hS1 | with_reducible exact KS.out _ (hS2 _) | with_reducible exact KS.out _ (hS3 _ _))
          (first | (go_at_call 67; refine (HCL.out _ (by first | with_reducible exact HQW.out _ hk1 | with_reducible exact HQW.out _ (hk2 _))).mono ?_; rintro e W2 ⟨u, rfl, hu, hb2⟩; have hS1 : Below W.heap.size W W2 := (by first | with_reducible exact bjoin hb2 hk1 | with_reducible exact bjoin hb2 (hk2 _)); obtain ⟨au, cu, hfu, hcu⟩ := hu.form; subst hfu; have hS2 : ∀ o, Below W.heap.size W (W2.alloc o) := fun o => hS1.alloc hS1.size o; have hS3 : ∀ o o2, Below W.heap.size W ((W2.alloc o).alloc o2) := fun o o2 => (hS2 o).alloc (hS2 o).size o2))
        all_goals first
          | (
              have hu0 : FB wnC 4 38 w.heap.size W2 (.slice au x.queue.length cu) x.queue := hu.mono (by have := HBW.out.size; have := hk1.size; first | omega | (rw [Deep.nblk_alloc]; omega))
              have hmo : MapO W2 D1.heap.size 0 := ⟨_, (World.ownsMap_made D1 Tryd.prog 88 ptrElem).kept (row := none) ⟨hb2.os, hb2.tape, hb2.output, hb2.size, fun k hk _ => hb2.block k hk⟩ (by simp)⟩
              have hwn : W.heap.size ≤ D1.heap.size := hk1.size
              have hmf : MapF W2 D1.heap.size 0 (fun _ _ => none) := (MapF.new D1).keep (hb2.block D1.heap.size (by simp))
              have hw0 : w.heap.size ≤ W.heap.size := HBW.out.size
              have hd1 : D1.heap.size ≤ W2.heap.size := by have := hb2.size; first | omega | (rw [Deep.nblk_alloc] at this; omega)
              have hBx : Below W.heap.size W W2 := by first | with_reducible exact hS1 | with_reducible exact hS2 _
              have hu1 : FB wnC 4 38 w.heap.size W2 (.slice au x.queue.length cu) x.queue := by first | with_reducible exact hu0 | exact hu0.below ((Below.refl _ _).alloc (Nat.le_refl _) _)
              have hlM : w.heap.size ≤ D1.heap.size := by omega
              have hlD : w.heap.size ≤ (W2).heap.size := by first | omega | (rw [Deep.nblk_alloc]; omega)
              obtain ⟨M, hM⟩ : ∃ M, D1.heap.size = M := ⟨_, rfl⟩
              obtain ⟨V, hV⟩ : ∃ V, W2 = V := ⟨_, rfl⟩
              obtain ⟨D, hD⟩ : ∃ D, V.heap.size = D := ⟨_, rfl⟩
              obtain ⟨W3, hW3⟩ : ∃ W3, V.alloc (Obj.cells #[.int .i64 x.epoch, .int .i64 x.next, .int .i64 now, .slice none 0 0, .slice none 0 0, .map (some M), .slice au x.queue.length cu, .slice none 0 0] 76) = W3 := ⟨_, rfl⟩
              rw [hM, hV] at hmo hmf
              rw [hV] at hBx hu1 hlD
              rw [hM] at hlM
              rw [hD] at hlD
              have hb3 : Below V.heap.size V W3 := by rw [← hW3]; exact (Below.refl _ _).alloc (Nat.le_refl _) _
              have HN : Hid (DeskN w.heap.size W3 D M [] ⟨x.epoch, x.next, now, [], [], x.queue, []⟩ (.slice none 0 0) (.slice none 0 0) (.slice au x.queue.length cu) (.slice none 0 0) 0) := DeskN.fresh (hmo.keep (hb3.block M hmo.lt)) (hu1.below hb3) (by rw [← hW3, ← hD]; exact Box.new _ _ _) hlM hlD
              have HMF : Hid (MapF W3 M 0 (outF (x.conns.take 0) [])) := by rw [List.take_zero, outF_nil]; exact hmf.keep (hb3.block M hmo.lt)
              have HB3 : Hid (Below w.heap.size w W3) := bjoin (bjoin hb3 hBx) HBW.out
              have p2 : W3.cell? ⟨w.heap.size, 2, none⟩ = some (.slice a1 x.conns.length c1) := (((HXW.out.below hBx).below hb3).pool).1.2.2.1
              first | rw [hM, hV, hD, hW3] | (subst hV; rw [hM, hD, hW3]) | (simp only [hM]; simp only [hV]; simp only [hD]; rw [hW3])
              clear hu hu0 hmo hmf hBx hu1 hb3 hS1 hS2 hS3 hb2 hlM hlD)
          | (
              have hu0 : FB wnC 4 38 w.heap.size W2 (.slice au x.queue.length cu) x.queue := hu.mono (by have := HBW.out.size; have := hk1.size; first | omega | (rw [Deep.nblk_alloc]; omega))
              have hmo : MapO (W2.alloc (Obj.map #[] 0)) W2.heap.size 0 := MapO.new W2
              have hwn : W.heap.size ≤ D1.heap.size := hk1.size
              have hmf : MapF (W2.alloc (Obj.map #[] 0)) W2.heap.size 0 (fun _ _ => none) := MapF.new W2
              have hw0 : w.heap.size ≤ W.heap.size := HBW.out.size
              have hd1 : D1.heap.size ≤ W2.heap.size := by have := hb2.size; first | omega | (rw [Deep.nblk_alloc] at this; omega)
              have hBx : Below W.heap.size W (W2.alloc (Obj.map #[] 0)) := by first | with_reducible exact hS1 | with_reducible exact hS2 _
              have hu1 : FB wnC 4 38 w.heap.size (W2.alloc (Obj.map #[] 0)) (.slice au x.queue.length cu) x.queue := by first | with_reducible exact hu0 | exact hu0.below ((Below.refl _ _).alloc (Nat.le_refl _) _)
              have hlM : w.heap.size ≤ W2.heap.size := by omega
              have hlD : w.heap.size ≤ (W2.alloc (Obj.map #[] 0)).heap.size := by first | omega | (rw [Deep.nblk_alloc]; omega)
              obtain ⟨M, hM⟩ : ∃ M, W2.heap.size = M := ⟨_, rfl⟩
              obtain ⟨V, hV⟩ : ∃ V, (W2.alloc (Obj.map #[] 0)) = V := ⟨_, rfl⟩
              obtain ⟨D, hD⟩ : ∃ D, V.heap.size = D := ⟨_, rfl⟩
              obtain ⟨W3, hW3⟩ : ∃ W3, V.alloc (Obj.cells #[.int .i64 x.epoch, .int .i64 x.next, .int .i64 now, .slice none 0 0, .slice none 0 0, .map (some M), .slice au x.queue.length cu, .slice none 0 0] 76) = W3 := ⟨_, rfl⟩
              rw [hM, hV] at hmo hmf
              rw [hV] at hBx hu1 hlD
              rw [hM] at hlM
              rw [hD] at hlD
              have hb3 : Below V.heap.size V W3 := by rw [← hW3]; exact (Below.refl _ _).alloc (Nat.le_refl _) _
              have HN : Hid (DeskN w.heap.size W3 D M [] ⟨x.epoch, x.next, now, [], [], x.queue, []⟩ (.slice none 0 0) (.slice none 0 0) (.slice au x.queue.length cu) (.slice none 0 0) 0) := DeskN.fresh (hmo.keep (hb3.block M hmo.lt)) (hu1.below hb3) (by rw [← hW3, ← hD]; exact Box.new _ _ _) hlM hlD
              have HMF : Hid (MapF W3 M 0 (outF (x.conns.take 0) [])) := by rw [List.take_zero, outF_nil]; exact hmf.keep (hb3.block M hmo.lt)
              have HB3 : Hid (Below w.heap.size w W3) := bjoin (bjoin hb3 hBx) HBW.out
              have p2 : W3.cell? ⟨w.heap.size, 2, none⟩ = some (.slice a1 x.conns.length c1) := (((HXW.out.below hBx).below hb3).pool).1.2.2.1
              have hD2 : W2.heap.size + 1 = D := by rw [← hD, ← hV]; simp
              first | rw [hD2, hM, hV, hW3] | (simp only [hD2, hM, hV]; rw [hW3])
              clear hu hu0 hmo hmf hBx hu1 hb3 hS1 hS2 hS3 hb2 hlM hlD)
        all_goals
          go_wp2_with fail
          go_loopg [34] x.conns.length (fun q i wx => ∃ (k : Nat) (Ls : List Nat) (lv fv : Value) (n : Nat), k ≤ x.conns.length ∧ q = x.conns.length - k ∧ i = .int .i64 k ∧ DeskN w.heap.size wx D M Ls ⟨x.epoch, x.next, now, x.conns.take k, freeIdx (x.conns.take k), x.queue, []⟩ lv fv (.slice au x.queue.length cu) (.slice none 0 0) n ∧ n ≤ k ∧ Below w.heap.size w wx ∧ MapF wx M n (outF (x.conns.take k) Ls))
          case atStart => exact ⟨0, [], _, _, 0, Nat.zero_le _, rfl, rfl, HN.out, Nat.le_refl _, HB3.out, HMF.out⟩
          case round =>
            obtain ⟨k, Ls, lv, fv, n, hk, rfl, rfl, hdn, hnk, hb, hmf⟩ := hrel
            by_cases hlt : k < x.conns.length
            · obtain ⟨b, off, rfl, hbl, hel, hz⟩ := at_place HPL.out.1 hlt
              have hi : (k : Int) < (x.conns.length : Int) := by omega
              obtain ⟨c, hc⟩ : ∃ c, x.conns[k] = c := ⟨_, rfl⟩
              rw [hc] at hel hz
              have hown : ∀ j (hj : j < 7), wr.cell? ⟨b, off + k * 7 + j, none⟩ = some ((cnC c)[j]'(by rw [cnC_len]; exact hj)) := fun j hj => by
                rw [hb.cell (p := ⟨b, off + k * 7 + j, none⟩) hbl]
                exact hel j (by rw [cnC_len]; exact hj)
              have g0 : wr.cell? ⟨b, off + k * 7, none⟩ = some (.bool c.busy) := hown 0 (by omega)
              have g1 : wr.cell? ⟨b, off + k * 7 + 1, none⟩ = some (.string c.control) := hown 1 (by omega)
              have g2 : wr.cell? ⟨b, off + k * 7 + 2, none⟩ = some (.int .i64 c.want.client) := hown 2 (by omega)
              have g3 : wr.cell? ⟨b, off + k * 7 + 3, none⟩ = some (.string c.want.tag) := hown 3 (by omega)
              have g4 : wr.cell? ⟨b, off + k * 7 + 4, none⟩ = some (.string c.want.query) := hown 4 (by omega)
              have g5 : wr.cell? ⟨b, off + k * 7 + 5, none⟩ = some (.string c.want.pointer) := hown 5 (by omega)
              have g6 : wr.cell? ⟨b, off + k * 7 + 6, none⟩ = some (.int .i64 c.due) := hown 6 (by omega)
              have hlen : Ls.length = k := by have := hdn.desk.len; simp only [List.length_take] at this; omega
              obtain ⟨V1, hV1⟩ : ∃ V, wr.alloc (Obj.cells #[.bool c.busy, .string c.control, .int .i64 c.want.client, .string c.want.tag, .string c.want.query, .string c.want.pointer, .int .i64 c.due] 85) = V := ⟨_, rfl⟩
              have hb1 : Below wr.heap.size wr V1 := by rw [← hV1]; exact (Below.refl _ _).alloc (Nat.le_refl _) _
              have hbx1 : Box V1 wr.heap.size 85 #[.bool c.busy, .string c.control, .int .i64 c.want.client, .string c.want.tag, .string c.want.query, .string c.want.pointer, .int .i64 c.due] := by rw [← hV1]; exact Box.new _ _ _
              have m0 : V1.cell? ⟨wr.heap.size, 0, none⟩ = some (.bool c.busy) := hbx1.cell 0 (by simp)
              have m1 : V1.cell? ⟨wr.heap.size, 1, none⟩ = some (.string c.control) := hbx1.cell 1 (by simp)
              have m2 : V1.cell? ⟨wr.heap.size, 2, none⟩ = some (.int .i64 c.want.client) := hbx1.cell 2 (by simp)
              have m3 : V1.cell? ⟨wr.heap.size, 3, none⟩ = some (.string c.want.tag) := hbx1.cell 3 (by simp)
              have m4 : V1.cell? ⟨wr.heap.size, 4, none⟩ = some (.string c.want.query) := hbx1.cell 4 (by simp)
              have m5 : V1.cell? ⟨wr.heap.size, 5, none⟩ = some (.string c.want.pointer) := hbx1.cell 5 (by simp)
              have m6 : V1.cell? ⟨wr.heap.size, 6, none⟩ = some (.int .i64 c.due) := hbx1.cell 6 (by simp)
              obtain ⟨V2, hV2⟩ : ∃ V, V1.alloc (Obj.cells #[.bool c.busy, .string c.control, .int .i64 c.want.client, .string c.want.tag, .string c.want.query, .string c.want.pointer, .int .i64 c.due, .int .i64 (k : Int)] 90) = V := ⟨_, rfl⟩
              have hb2 : Below V1.heap.size V1 V2 := by rw [← hV2]; exact (Below.refl _ _).alloc (Nat.le_refl _) _
              have hbL : Box V2 V1.heap.size 90 (lnA c k) := by rw [← hV2]; exact Box.new _ _ _
              have hbb : Below wr.heap.size wr V2 := bjoin hb2 hb1
              have hd2 := hdn.below hbb
              have hs1 : wr.heap.size ≤ V1.heap.size := hb1.size
              have hs0 : w.heap.size ≤ wr.heap.size := hb.size
              have hsV : V1.heap.size < V2.heap.size := hbL.lt
              obtain ⟨L, hL⟩ : ∃ L, V1.heap.size = L := ⟨_, rfl⟩
              rw [hL] at hbL hs1 hsV
              have hnew : L ∉ Ls := fun h => by
                obtain ⟨i, hi, e⟩ := List.getElem_of_mem h
                have := (hdn.desk.line i hi (by rw [← hdn.desk.len]; exact hi)).lt
                omega
              obtain ⟨v3, V3, hr3, hF3, o3, hat3⟩ := app1 Tryd.underlying73 info_Ptr rfl (by decide) ptrC_len ptrC_one hd2.desk.lrow 73 L (by omega) (by omega) (by omega)
              have hsepF : ∀ d ∈ fv.ownBlock.toList, V3.heap[d]? = V2.heap[d]? := fun d hd => o3.block d (hd2.ffree.own d hd).2 (hd2.sep d hd)
              have hF3f := hd2.ffree.keep hsepF
              have hd4 := hd2.desk.addLine (c := c) (by rw [hlen]; exact hbL) (by omega) hnew o3 hF3 (FV.of_own ptrC_len hF3f (Nat.le_refl _))
              simp only at hd4
              rw [← hc, take_snoc x.conns k hlt] at hd4
              obtain ⟨V4, hV4⟩ : ∃ V, V3.setCell ⟨D, 3, none⟩ v3 = V := ⟨_, rfl⟩
              rw [hV4] at hd4
              have hbox3 : Box V3 D 76 _ := hd2.desk.box.keepT (TSame.own hd2.desk.lrow o3 (by decide))
              have oD4 : Only [D] V3 V4 := by rw [← hV4]; exact (Only.refl _ _).setCell (by simp) _
              have hF4f : FB ptrC 1 86 w.heap.size V4 fv _ := hF3f.keepT (TSame.only oD4 hbox3 (by decide))
              have hQ4 : FB wnC 4 38 w.heap.size V4 (.slice au x.queue.length cu) x.queue := (hd2.fqueue.keepT (TSame.own hd2.desk.lrow o3 (by decide))).keepT (TSame.only oD4 hbox3 (by decide))
              have hbl4 : Below w.heap.size w V4 := by
                have c1 := bjoin hbb hb
                have c2 := c1.trans (o3.below c1.size fun d hd => (hd2.desk.lrow.own d hd).1)
                rw [← hV4]
                exact c2.setCell (by have := hd2.desk.lows.1; simpa using this) _
              have HMF4 : Hid (MapF V4 M n (outF (x.conns.take k) Ls)) := by
                have e1 := hbb.block M hdn.desk.map.lt
                have e2 := o3.block M hd2.desk.map.lt fun hx => by obtain ⟨cur, hbx⟩ := hd2.desk.lrow.box M hx; exact (hd2.desk.map.ne hbx) rfl
                have e3 : V4.heap[M]? = V3.heap[M]? := oD4.block M (by have := hd2.desk.map.lt; have := o3.size; omega) (by simp; exact fun e => (hd2.desk.map.ne hd2.desk.box) e.symm)
                exact hmf.keep (e3.trans (e2.trans e1))
              clear hmf
              have hL4 : Box V4 L 90 (lnA c k) := ((hbL.keepT (TSame.own hd2.desk.lrow o3 (by decide)))).keepT (TSame.only oD4 hbox3 (by decide))
              have hsep4 : ∀ d ∈ fv.ownBlock.toList, d ∉ v3.ownBlock.toList := fun d hd h => by
                rcases hat3 with h3 | ⟨g, h3, hg⟩
                · rw [h3] at h; exact hd2.sep d hd h
                · rw [h3] at h; simp at h; subst h; have := (hd2.ffree.own _ hd).2; omega
              have q3 : V2.cell? ⟨D, 3, none⟩ = some lv := hd2.desk.cells.1.2.2.2.1
              have r3 : V3.cell? ⟨D, 3, none⟩ = some lv := hbox3.cell 3 (by simp)
              have rf3 := hbox3.frozen 3
              have q5 : V4.cell? ⟨L, 0, none⟩ = some (.bool c.busy) := hL4.line7.1.1
              obtain ⟨al, cl, hlf, _⟩ := hd2.desk.lrow.form
              obtain ⟨a3, c3, hf3, _⟩ := hF3.form
              rw [List.length_append, List.length_singleton] at hf3
              have hr3' : (Builtin.append_ #[73, 73] 73 #[lv, .slice (some ⟨V2.heap.size, 0, none⟩) 1 1]).run Tryd.prog (V2.alloc (.cells #[.pointer (some ⟨L, 0, none⟩)] 86)) = .ok v3 V3 := hr3
              subst hlf hf3
              have HD4 := hide hd4
              have HF4 := hide hF4f
              have HQ4 := hide hQ4
              have HL4 := hide hL4
              have HSEP := hide hsep4
              have HBL := hide hbl4
              have HCZ := hide hz
              have HC := hide hc
              have hszb : c.control.size ≤ 9223372036854775807 := hz.1
              have hLlen : (Ls ++ [L]).length = k + 1 := by simp [hlen]
              have hLk : (Ls ++ [L]).getD k 0 = L := by rw [List.getD_eq_getElem?_getD, List.getElem?_append_right (by omega), hlen]; simp
              clear hel hown hb1 hbx1 hb2 hbL hbb hd2 hr3 hF3 o3 hat3 hsepF hF3f hd4 hbox3 oD4 hF4f hQ4 hbl4 hL4 hsep4 hc hz hdn hb
              cases hbz : c.busy with
              | true =>
                have q4 : V4.cell? ⟨D, 5, none⟩ = some (.map (some M)) := HD4.out.cells.1.2.2.2.2.2.1
                have KS5 : Hid (∀ X, Below V4.heap.size V4 X → X.cell? ⟨D, 5, none⟩ = some (.map (some M))) := fun X hX => (HD4.out.below hX).cells.1.2.2.2.2.2.1
                have hD5' : Below V4.heap.size V4 V4.drew := (Below.refl _ _).drew
                obtain ⟨D5, hwd5⟩ : ∃ D5, V4.drew = D5 := ⟨_, rfl⟩
                have hD5 : Below V4.heap.size V4 D5 := by rw [← hwd5]; exact hD5'
                have HPUT : Hid (∀ X, Below V4.heap.size V4 X → ∃ W', (Instr.mapUpdate 74 (.map (some M)) (.agg #[.int .i64 (k : Int), .string c.control]) (.pointer (some ⟨L, 0, none⟩))).run Tryd.prog X = .ok () W' ∧ MapO W' M (n + 1) ∧ Only [M] X W') := fun X hX => (HD4.out.below hX).map.put (by omega) (k : Int) c.control L (by simp [Lit.wf, IntKind.min, IntKind.max, IntKind.signed, IntKind.bits]; omega) hszb
                have hfix : freeIdx (x.conns.take (k + 1)) = freeIdx (x.conns.take k) := by
                  rw [← take_snoc x.conns k hlt, HC.out]
                  unfold freeIdx
                  rw [freeGo_snoc, hbz]
                  simp
                have HFIX := hide hfix
                have HBZ := hide hbz
                clear hfix
                rw [hbz] at q5
                have HLEN := hide hlen
                clear hbz hlen hLlen
                go_wp2_with (first | (at_builtin; refine wpList_app rfl _ _ 73 rfl hr3' (by first | rfl | simp [Act.eval, Act.put]) (by first | rfl | simp [Act.eval, Act.put]) ?_))
                go_region_held3 (fun X => X.cell? ⟨D, 5, none⟩ = some (.map (some M)))
                  (first | with_reducible exact KS5.out _ hD5' | with_reducible exact KS5.out _ hD5 | with_reducible exact KS5.out _ hS5 | with_reducible exact hcM6)
                  (first | (go_at_call 68; refine (lineKey_any c k L _ (HL4.out.below hD5)).mono ?_; rintro e V5 ⟨rfl, hb5⟩; have hS5 : Below V4.heap.size V4 V5 := bjoin hb5 hD5; obtain ⟨V6, hr6, hm6, ho6⟩ := HPUT.out V5 hS5; have hcM6 : V6.cell? ⟨D, 5, none⟩ = some (.map (some M)) := ((HD4.out.below hS5).mapSet ho6 hm6).cells.1.2.2.2.2.2.1))
                have hlen := HLEN.out
                have hd6 := (HD4.out.below hS5).mapSet ho6 hm6
                have HNX : Hid (DeskN w.heap.size V6 D M (Ls ++ [L]) ⟨x.epoch, x.next, now, x.conns.take (k + 1), freeIdx (x.conns.take (k + 1)), x.queue, []⟩ (.slice a3 (Ls.length + 1) c3) fv (.slice au x.queue.length cu) (.slice none 0 0) (n + 1) ∧ Below w.heap.size w V6 ∧ MapF V6 M (n + 1) (outF (x.conns.take (k + 1)) (Ls ++ [L]))) := by
                  have hMF6 : MapF V6 M (n + 1) (outF (x.conns.take (k + 1)) (Ls ++ [L])) := by
                    have h1 := (HMF4.out.keep (hS5.block M HD4.out.map.lt)).put (by omega) (k : Int) c.control L (by simp [Lit.wf, IntKind.min, IntKind.max, IntKind.signed, IntKind.bits]; omega) hszb hr6
                    rw [← take_snoc x.conns k hlt, HC.out, outF_busy (by rw [hlen, List.length_take]; omega) HBZ.out, List.length_take, show min k x.conns.length = k by omega]
                    exact h1
                  rw [HFIX.out]
                  refine ⟨⟨hd6, ?_, HSEP.out, ?_⟩, ?_, hMF6⟩
                  · have e : ((freeIdx (x.conns.take k)).map fun i => (Ls ++ [L]).getD i 0) = (freeIdx (x.conns.take k)).map fun i => Ls.getD i 0 := List.map_congr_left fun i hi => getD_snoc (by have := freeGo_lt 0 _ i hi; simp only [List.length_take] at this; omega)
                    simp only [e]
                    exact (HF4.out.below hS5).keepT (TSame.map ho6 (HD4.out.below hS5).map)
                  · exact (HQ4.out.below hS5).keepT (TSame.map ho6 (HD4.out.below hS5).map)
                  · have c1 := bjoin hS5 HBL.out
                    exact c1.trans (ho6.below c1.size fun d hd => by simp at hd; have := HD4.out.lows.2.1; omega)
                clear hd6 hr6 hm6 ho6 hcM6 hb5
                go_wp2_with fail
                go_roundg (x.conns.length - (k + 1))
                case measure => omega
                case rel => exact ⟨k + 1, Ls ++ [L], _, fv, n + 1, by omega, rfl, by go_num, HNX.out.1, by omega, HNX.out.2.1, HNX.out.2.2⟩
              | false =>
                obtain ⟨v5, V5, hr5, hF5, o5, hat5⟩ := app1 Tryd.underlying73 info_Ptr rfl (by decide) ptrC_len ptrC_one HF4.out 73 L HBL.out.size (by have := freeGo_lt 0 (x.conns.take k); rw [List.length_map]; exact Nat.le_trans (freeGo_len 0 _) (by simp only [List.length_take]; omega)) (by omega)
                have HFIX : Hid (freeIdx (x.conns.take (k + 1)) = freeIdx (x.conns.take k) ++ [k]) := by
                  rw [← take_snoc x.conns k hlt, HC.out]
                  unfold freeIdx
                  rw [freeGo_snoc, hbz]
                  simp only [List.length_take]
                  rw [show 0 + min k x.conns.length = k by omega]
                  rfl
                have he : ((freeIdx (x.conns.take k)).map fun i => (Ls ++ [L]).getD i 0) = (freeIdx (x.conns.take k)).map fun i => Ls.getD i 0 := List.map_congr_left fun i hi => getD_snoc (by have := freeGo_lt 0 _ i hi; simp only [List.length_take] at this; omega)
                have hF5' : FB ptrC 1 86 w.heap.size V5 v5 ((freeIdx (x.conns.take k) ++ [k]).map fun i => (Ls ++ [L]).getD i 0) := by
                  rw [List.map_append, he, List.map_cons, List.map_nil, hLk]
                  exact hF5
                have hl5 := HD4.out.lrow.only o5 (fun d hd h => HSEP.out d h hd)
                have hd6 := HD4.out.addFree (k := k) (by omega) HF4.out o5 hF5' hl5
                obtain ⟨V6, hV6⟩ : ∃ V, V5.setCell ⟨D, 4, none⟩ v5 = V := ⟨_, rfl⟩
                have hbox5 : Box V5 D 76 _ := HD4.out.box.keepT (TSame.own HF4.out o5 (by decide))
                have oD6 : Only [D] V5 V6 := by rw [← hV6]; exact (Only.refl _ _).setCell (by simp) _
                have HNX : Hid (DeskN w.heap.size V6 D M (Ls ++ [L]) ⟨x.epoch, x.next, now, x.conns.take (k + 1), freeIdx (x.conns.take (k + 1)), x.queue, []⟩ (.slice a3 (Ls.length + 1) c3) v5 (.slice au x.queue.length cu) (.slice none 0 0) n ∧ Below w.heap.size w V6 ∧ MapF V6 M n (outF (x.conns.take (k + 1)) (Ls ++ [L]))) := by
                  have hMF6 : MapF V6 M n (outF (x.conns.take (k + 1)) (Ls ++ [L])) := by
                    have e2 := o5.block M HD4.out.map.lt fun hx => by obtain ⟨cur, hbx⟩ := HF4.out.box M hx; exact (HD4.out.map.ne hbx) rfl
                    have e3 : V6.heap[M]? = V5.heap[M]? := oD6.block M (by have := HD4.out.map.lt; have := o5.size; omega) (by simp; exact fun e => (HD4.out.map.ne HD4.out.box) e.symm)
                    rw [← take_snoc x.conns k hlt, HC.out, outF_free (by rw [hlen, List.length_take]; omega) hbz]
                    exact HMF4.out.keep (e3.trans e2)
                  rw [HFIX.out]
                  refine ⟨⟨by rw [← hV6]; exact hd6, hF5'.keepT (TSame.only oD6 hbox5 (by decide)), fun d hd h => ?_, (HQ4.out.keepT (TSame.own HF4.out o5 (by decide))).keepT (TSame.only oD6 hbox5 (by decide))⟩, ?_, hMF6⟩
                  · rcases hat5 with h5 | ⟨g, h5, hg⟩
                    · rw [h5] at hd; exact HSEP.out d hd h
                    · rw [h5] at hd; simp at hd; subst hd; have := (HD4.out.lrow.own _ h).2; omega
                  · have c2 := HBL.out.trans (o5.below HBL.out.size fun d hd => (HF4.out.own d hd).1)
                    rw [← hV6]
                    exact c2.setCell (by have := HD4.out.lows.1; simpa using this) _
                have q6 : V4.cell? ⟨D, 4, none⟩ = some fv := HD4.out.cells.1.2.2.2.2.1
                have r6 : V5.cell? ⟨D, 4, none⟩ = some fv := hbox5.cell 4 (by simp)
                have rf6 := hbox5.frozen 4
                have hr5' : (Builtin.append_ #[73, 73] 73 #[fv, .slice (some ⟨V4.heap.size, 0, none⟩) 1 1]).run Tryd.prog (V4.alloc (.cells #[.pointer (some ⟨L, 0, none⟩)] 86)) = .ok v5 V5 := hr5
                obtain ⟨a5, c5, hf5, _⟩ := HF4.out.form
                rw [List.length_map] at hf5
                obtain ⟨fl, hfl⟩ : ∃ fl, (freeIdx (x.conns.take k)).length = fl := ⟨_, rfl⟩
                rw [hfl] at hf5
                obtain ⟨a6, c6, hf6, _⟩ := hF5.form
                rw [List.length_append, List.length_singleton, List.length_map] at hf6
                rw [hfl] at hf6
                clear hfl
                subst hf5 hf6
                rw [hbz] at q5
                have HLEN := hide hlen
                clear hbz hlen hLlen
                have HR5 := hide hr5'
                have Q6 := hide (And.intro q6 (And.intro r6 rf6))
                clear hr5 hF5 o5 hat5 hF5' hl5 hd6 hbox5 oD6 he hr5' q6 r6 rf6
                clear hLk hnew
                conv in (Code.region 11 _ _) => change Stop _
                go_wp2_with (first | (at_builtin; refine wpList_app rfl _ _ 73 rfl hr3' (by first | rfl | simp [Act.eval, Act.put]) (by first | rfl | simp [Act.eval, Act.put]) ?_))
                have hr5' := HR5.out
                obtain ⟨q6, r6, rf6⟩ := Q6.out
                clear hr3' q3 r3 rf3 q5 g0 g1 g2 g3 g4 g5 g6 m0 m1 m2 m3 m4 m5 m6
                unfold Stop
                go_wp2_with (first | (at_builtin; refine wpList_app rfl _ _ 73 rfl hr5' (by first | rfl | simp [Act.eval, Act.put]) (by first | rfl | simp [Act.eval, Act.put]) ?_))
                go_roundg (x.conns.length - (k + 1))
                case measure => omega
                case rel => exact ⟨k + 1, Ls ++ [L], _, _, n, by omega, rfl, by go_num, HNX.out.1, by omega, HNX.out.2.1, HNX.out.2.2⟩
            · obtain rfl : k = x.conns.length := by omega
              rw [List.take_length] at hdn hmf
              have HMFE := hide hmf
              have HDN := hide hdn
              have HB := hide hb
              clear hdn hb hmf
              go_wp2_with fail
              go_ret
              exact ⟨.inl ⟨HOK.out.1, HOK.out.2, D, M, Ls, lv, fv, _, n, rfl, HDN.out, hnk, HMFE.out⟩, HB.out⟩
end Go.Proofs.YtfeccdhadgpnkaaDoor.Msg
