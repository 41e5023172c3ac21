import Derived.Test.YtfdefjdogmhinaaDoorPlWwithPlSame
import Derived.Test.YtfdefjdogmhinaaDoorPlCbwithPhase
import Derived.Test.YtfdefjdogmhinaaDoorAskIwithDeskOf3
import Derived.Test.YtfdefjdogmhinaaDoorAnsIwithAnsS
import Derived.Test.YtfdefjdogmhinaaDoorExpIwithExpS
import Derived.Test.YtfdefjdogmhinaaDoorDelFn5withFgtI
import Derived.Deep.DeepCutAuto
import Derived.Test.YtfdefjdogmhinaaDoorFgtPurewithDeskMap
namespace Go.Proofs.YtfdefjdogmhinaaDoor.Msg
open Go.ChangeShapes Go.WideShapes Go.ChangeAt Go.RowKit
set_option linter.unusedVariables false
set_option linter.unusedSimpArgs false

def set4 (X : World) (B : Nat) (x0 x1 x2 x3 : Value) : World := (((X.setCell ⟨B, 0, none⟩ x0).setCell ⟨B, 1, none⟩ x1).setCell ⟨B, 2, none⟩ x2).setCell ⟨B, 3, none⟩ x3
theorem set4_only (X : World) (B : Nat) (x0 x1 x2 x3 : Value) : Only [B] X (set4 X B x0 x1 x2 x3) := by
  unfold set4
  exact ((((Only.refl [B] X).setCell (by simp) _).setCell (by simp) _).setCell (by simp) _).setCell (by simp) _
theorem Box.fill4 {W : World} {b : Nat} {t : TypeId} {y0 y1 y2 y3 : Value} (h : Box W b t #[y0, y1, y2, y3]) (x0 x1 x2 x3 : Value) : Box (set4 W b x0 x1 x2 x3) b t #[x0, x1, x2, x3] := by
  have := (((h.set 0 x0).set 1 x1).set 2 x2).set 3 x3
  simpa [set4] using this
/-- 'p = next; q = next2' -/
theorem two_moves {X : World} {P Q B C : Nat} {o0 o1 o2 o3 q0 q1 q2 q3 e n cv qv e2 n2 cv2 qv2 : Value} (hP : Box X P 27 #[o0, o1, o2, o3]) (hQ : Box X Q 27 #[q0, q1, q2, q3]) (hC : Box X C 27 #[e2, n2, cv2, qv2]) (hPQ : P ≠ Q) (hCP : C ≠ P) :
    ∃ Y1 Y2, set4 X P e n cv qv = Y1 ∧ set4 Y1 Q e2 n2 cv2 qv2 = Y2 ∧ Box Y1 C 27 #[e2, n2, cv2, qv2] ∧ Box Y1 Q 27 #[q0, q1, q2, q3] ∧ Box Y2 P 27 #[e, n, cv, qv] ∧ Box Y2 Q 27 #[e2, n2, cv2, qv2] ∧ Only [P] X Y1 ∧ Only [Q] Y1 Y2 := by
  have o1 := set4_only X P e n cv qv
  have o2 := set4_only (set4 X P e n cv qv) Q e2 n2 cv2 qv2
  have k1 := hQ.only o1 (by simp; exact hPQ.symm)
  exact ⟨_, _, rfl, rfl, hC.only o1 (by simp; exact hCP), k1, (hP.fill4 e n cv qv).only o2 (by simp; exact hPQ), k1.fill4 e2 n2 cv2 qv2, o1, o2⟩
/-- a row of elements that bear a text at their second place, where a pool's box was filled -/
theorem At.pool {α : Type} {C : α → List Value} {Z : α → Prop} {c : Nat} {X Y : World} {v : Value} {xs : List α} {P : Nat} {e n : Int} {a1 a2 : Option Addr} {n1 n2 c1 c2 : Nat} (h : At c (FR C Z) 0 X v xs) (h1 : ∀ x, ∃ s, (C x)[1]? = some (.string s)) (hP : Box X P 27 #[.int .i64 e, .int .i64 n, .slice a1 n1 c1, .slice a2 n2 c2]) (ho : Only [P] X Y) : At c (FR C Z) 0 Y v xs :=
  at_off h hP (off_pool h1 e n a1 a2 n1 n2 c1 c2) ho.size fun d hd hlt => ho.block d hlt (by simpa using hd)
theorem CB.pool {base : Nat} {X Y : World} {v : Value} {cts : List ByteArray} {P : Nat} {arr : Array Value} (h : CB base X v cts) (hP : Box X P 27 arr) (ho : Only [P] X Y) : CB base Y v cts :=
  h.keep fun g hg => ho.block g (FB.own h.1 g hg).2 (by
    obtain ⟨cur, hx, _⟩ := h.2 g hg
    simp only [List.mem_singleton]
    exact (hx.ne hP (by decide)))
/-- what holds at a round's beginning -/
def RJ (N P Q lo : Nat) (k : Nat) (v6 v7 v8 v9 v10 v11 : Value) (wx : World) : Prop :=
  ∃ (nw ak : Nat) (rf en ls : Int) (x : Pl) (cts : List ByteArray) (cv qv cv2 qv2 : Value), v6 = .int .i64 (nw : Int) ∧ v7 = .int .i64 (ak : Int) ∧ v8 = .int .i64 rf ∧ v9 = .int .i64 en ∧ v10 = .int .i64 ls ∧ nw ≤ 20 * k ∧ ak ≤ k ∧ ls < (ak : Int) ∧ -1 ≤ ls ∧ PJ N ak rf en ls x cts ∧ PQ P Q x cv qv cv2 qv2 wx ∧ CB lo wx v11 cts
/-- what holds behind an operation: j of what was sent have been looked at -/
def RM (N P Q lo : Nat) (k j : Nat) (nw ak : Nat) (rf en : Int) (x : Pl) (ss : List St) (cv qv cv2 qv2 sv rv : Value) (v10 v11 : Value) (wx : World) : Prop :=
  ∃ (ls : Int) (cts : List ByteArray), v10 = .int .i64 ls ∧ ls < (ak : Int) ∧ -1 ≤ ls ∧ MJ N ak rf en ls x ss j cts ∧ PQ P Q x cv qv cv2 qv2 wx ∧ StsAt 0 wx sv ss ∧ StsAt 0 wx rv ss ∧ CB lo wx v11 cts
/-- 'p = next; q = next2', said of what holds -/
theorem RM.of {N P Q lo k nw ak : Nat} {rf en ls : Int} {x R : Pl} {ss : List St} {cts : List ByteArray} {b1 b2 b3 b4 : Option Addr} {m1 m2 m3 m4 d1 d2 d3 d4 : Nat} {a1 a2 a3 a4 : Option Addr} {n1 n2 n3 n4 c1 c2 c3 c4 : Nat} {sv rv v10 v11 : Value} {X Y1 Y2 : World}
    (hpq : PQ P Q x (.slice a1 n1 c1) (.slice a2 n2 c2) (.slice a3 n3 c3) (.slice a4 n4 c4) X) (hPQ : P ≠ Q)
    (hR : PlAt 0 X R (.slice b1 m1 d1) (.slice b2 m2 d2)) (hR2 : PlAt 0 X R (.slice b3 m3 d3) (.slice b4 m4 d4)) (hs : StsAt 0 X sv ss) (hs2 : StsAt 0 X rv ss) (hc : CB lo X v11 cts)
    (h1 : set4 X P (.int .i64 R.epoch) (.int .i64 R.next) (.slice b1 m1 d1) (.slice b2 m2 d2) = Y1) (h2 : set4 Y1 Q (.int .i64 R.epoch) (.int .i64 R.next) (.slice b3 m3 d3) (.slice b4 m4 d4) = Y2)
    (hv : v10 = .int .i64 ls) (hls : ls < (ak : Int)) (hl1 : -1 ≤ ls) (hmj : MJ N ak rf en ls R ss 0 cts) :
    RM N P Q lo k 0 nw ak rf en R ss (.slice b1 m1 d1) (.slice b2 m2 d2) (.slice b3 m3 d3) (.slice b4 m4 d4) sv rv v10 v11 Y2 := by
  obtain ⟨hP, hQ, _, _⟩ := hpq
  subst h1 h2
  have o1 := set4_only X P (.int .i64 R.epoch) (.int .i64 R.next) (.slice b1 m1 d1) (.slice b2 m2 d2)
  have o2 := set4_only (set4 X P (.int .i64 R.epoch) (.int .i64 R.next) (.slice b1 m1 d1) (.slice b2 m2 d2)) Q (.int .i64 R.epoch) (.int .i64 R.next) (.slice b3 m3 d3) (.slice b4 m4 d4)
  have k1 := hQ.only o1 (by simp; exact hPQ.symm)
  exact ⟨ls, cts, hv, hls, hl1, hmj, ⟨(hP.fill4 _ _ _ _).only o2 (by simp; exact hPQ), k1.fill4 _ _ _ _, ⟨(hR.1.pool str_cn hP o1).pool str_cn k1 o2, (hR.2.pool str_wn hP o1).pool str_wn k1 o2⟩, ⟨(hR2.1.pool str_cn hP o1).pool str_cn k1 o2, (hR2.2.pool str_wn hP o1).pool str_wn k1 o2⟩⟩, (At.pool hs str_st hP o1).pool str_st k1 o2, (At.pool hs2 str_st hP o1).pool str_st k1 o2, (hc.pool hP o1).pool k1 o2⟩
end Go.Proofs.YtfdefjdogmhinaaDoor.Msg

namespace Go.Proofs.YtfdefjdogmhinaaDoor.Msg
open Go.ChangeShapes Go.WideShapes Go.ChangeAt Go.RowKit
set_option linter.unusedVariables false
set_option linter.unusedSimpArgs false

set_option maxRecDepth 100000 in
set_option maxHeartbeats 1000000 in
theorem l6Of_any (q : Wn) (client : Int) (tag : ByteArray) (w : World) :
    Calls Tryd.prog 38 #[wnV q, .int .i64 client, .string tag] w fun en w' => en = .returned (.bool (thB client tag q)) ∧ Below w.heap.size w w' := by
  show Calls Tryd.prog 38 #[.agg #[.int .i64 q.client, .string q.tag, .string q.query, .string q.pointer], .int .i64 client, .string tag] w _
  obtain ⟨w1, hw1⟩ : ∃ w1, w.alloc (Obj.cells #[.int .i64 q.client, .string q.tag, .string q.query, .string q.pointer] 33) = w1 := ⟨_, rfl⟩
  have HB1 : Hid (Below w.heap.size w w1) := by rw [← hw1]; exact (Below.refl _ _).alloc (Nat.le_refl _) _
  have hX : Box w1 w.heap.size 33 #[.int .i64 q.client, .string q.tag, .string q.query, .string q.pointer] := by rw [← hw1]; exact Box.new _ _ _
  have x0 : w1.cell? ⟨w.heap.size, 0, none⟩ = some (.int .i64 q.client) := hX.cell 0 (by simp)
  have x1 : w1.cell? ⟨w.heap.size, 1, none⟩ = some (.string q.tag) := hX.cell 1 (by simp)
  clear hX
  by_cases h1 : q.client = client
  · by_cases h2 : q.tag = tag
    · have HR : Hid (thB client tag q = true) := decide_eq_true ⟨h1, h2⟩
      subst h1 h2
      go_enter Tryd.func38, Tryd.ntmps38
      go_wp2_with fail
      go_ret
      rw [HR.out]
      exact ⟨by simp, HB1.out⟩
    · have HR : Hid (thB client tag q = false) := decide_eq_false (fun h => h2 h.2)
      obtain ⟨s1, s2⟩ := str_ne2 h2
      subst h1
      go_enter Tryd.func38, Tryd.ntmps38
      go_wp2_with fail
      go_ret
      rw [HR.out]
      exact ⟨by simp [s2], HB1.out⟩
  · have HR : Hid (thB client tag q = false) := decide_eq_false (fun h => h1 h.1)
    have h1b : (q.client == client) = false := by simpa using h1
    go_enter Tryd.func38, Tryd.ntmps38
    go_wp2_with fail
    go_ret
    rw [HR.out]
    exact ⟨by simp [h1b], HB1.out⟩
end Go.Proofs.YtfdefjdogmhinaaDoor.Msg
