import Derived.Test.YtfdefjdogmhinaaDoorPoolOk2withMarkSent
import Derived.Test.YtfdefjdogmhinaaDoorQryNumwithChgPure
import Derived.Test.YtfdefjdogmhinaaDoorFlatAppwithDeskKey
namespace Go.Proofs.YtfdefjdogmhinaaDoor.Msg
open Go.ChangeShapes Go.WideShapes Go.ChangeAt Go.RowKit
set_option linter.unusedVariables false
set_option linter.unusedSimpArgs false

/-! the pool serves, over lists -/
def ctlOf (e n : Int) : ByteArray := ⟨#[85]⟩ ++ decT e.toNat ++ ⟨#[45]⟩ ++ decT n.toNat
def putP (now : Int) (x : Pl) (q : Wn) (qs : List Wn) : Pl := ⟨x.epoch, x.next + 1, x.conns.set (freeN x.conns) ⟨true, ctlOf x.epoch x.next, q, now + 30⟩, qs⟩
def putS (x : Pl) (q : Wn) : St := ⟨(freeN x.conns : Int), ctlOf x.epoch x.next, q⟩
def serve : Nat → Int → Pl → Pl × List St
  | 0, _, x => (x, [])
  | f + 1, now, x => match x.queue with
    | [] => (x, [])
    | q :: qs => if freeN x.conns < x.conns.length then ((serve f now (putP now x q qs)).1, putS x q :: (serve f now (putP now x q qs)).2) else (x, [])
theorem serve_nil (f : Nat) (now : Int) (x : Pl) (h : x.queue = []) : serve f now x = (x, []) := by
  cases f with
  | zero => rfl
  | succ f => simp only [serve, h]
theorem serve_full (f : Nat) (now : Int) (x : Pl) (h : ¬ freeN x.conns < x.conns.length) : serve f now x = (x, []) := by
  cases f with
  | zero => rfl
  | succ f =>
    simp only [serve]
    split
    · rfl
    · rw [if_neg h]
theorem serve_step (f : Nat) (now : Int) (x : Pl) (q : Wn) (qs : List Wn) (h : x.queue = q :: qs) (hf : freeN x.conns < x.conns.length) :
    serve (f + 1) now x = ((serve f now (putP now x q qs)).1, putS x q :: (serve f now (putP now x q qs)).2) := by
  simp only [serve, h]
  rw [if_pos hf]
theorem decT_size (u : Nat) (h : u ≤ 9999999) : (decT u).size ≤ 7 := by
  have key : ∀ (j u : Nat), u < 10 ^ (j + 1) → (decT u).size ≤ j + 1 := by
    intro j
    induction j with
    | zero => intro u hu; rw [decT_one u (by omega)]; exact Nat.le_refl _
    | succ j ih =>
      intro u hu
      by_cases h10 : u < 10
      · rw [decT_one u h10]; show 1 ≤ _; omega
      · rw [decT_more u h10, ByteArray.size_append]
        have := ih (u / 10) (by rw [Nat.pow_succ] at hu; omega)
        have h1 : (⟨#[digC (u % 10)]⟩ : ByteArray).size = 1 := rfl
        omega
  exact key 6 u (by omega)
theorem ctl_size (e n : Int) (he : e ≤ 9999999) (hn : n ≤ 9999999) : (ctlOf e n).size ≤ 16 := by
  unfold ctlOf
  simp only [ByteArray.size_append]
  have h1 := decT_size e.toNat (by omega)
  have h2 := decT_size n.toNat (by omega)
  have h3 : (⟨#[85]⟩ : ByteArray).size = 1 := rfl
  have h4 : (⟨#[45]⟩ : ByteArray).size = 1 := rfl
  omega

/-- an element of a list that may be written is put anew -/
theorem FO.set7 {w : World} {b off cap : Nat} {xs : List Cn} {bs : List Nat} (h : FO cnC 7 w (.slice (some ⟨b, off, none⟩) xs.length cap) xs bs) {k : Nat} (hk : k < xs.length) (y : Cn) {p : Nat} (hp : off + k * 7 = p) :
    FO cnC 7 (((((((w.setCell ⟨b, p, none⟩ (.bool y.busy)).setCell ⟨b, p + 1, none⟩ (.string y.control)).setCell ⟨b, p + 2, none⟩ (.int .i64 y.want.client)).setCell ⟨b, p + 3, none⟩ (.string y.want.tag)).setCell ⟨b, p + 4, none⟩ (.string y.want.query)).setCell ⟨b, p + 5, none⟩ (.string y.want.pointer)).setCell ⟨b, p + 6, none⟩ (.int .i64 y.due)) (.slice (some ⟨b, off, none⟩) (xs.set k y).length cap) (xs.set k y) bs := by
  subst hp
  obtain ⟨hl, ⟨a, cap', e, hn, _⟩ | ⟨b', off', cap', e, hlt, rfl, hc⟩⟩ := h
  · omega
  · injection e with e1 _ e2
    injection e1 with e1
    injection e1 with e3 e4 _
    subst e3 e4 e2
    have hc0 : Cells w b off (xs.length * 7) (fun i => (flat cnC xs).getD i (.int .i64 0)) := hc
    have h7 := ((((((hc0.set0 (p := k * 7) (by omega) (.bool y.busy)).set (p := k * 7) (q := 1) (by omega) (.string y.control)).set (p := k * 7) (q := 2) (by omega) (.int .i64 y.want.client)).set (p := k * 7) (q := 3) (by omega) (.string y.want.tag)).set (p := k * 7) (q := 4) (by omega) (.string y.want.query)).set (p := k * 7) (q := 5) (by omega) (.string y.want.pointer)).set (p := k * 7) (q := 6) (by omega) (.int .i64 y.due)
    refine ⟨by rw [List.length_set]; exact hl, .inr ⟨b, off, cap, rfl, by simpa [Deep.nblk_setCell] using hlt, rfl, ?_⟩⟩
    rw [List.length_set]
    refine h7.congr fun i hi => ?_
    have hlen : (xs.set k y).length = xs.length := List.length_set
    have hiq : i / 7 < xs.length := by omega
    have hget : (flat cnC (xs.set k y)).getD i (.int .i64 0) = (cnC ((xs.set k y)[i / 7]'(by omega)))[i % 7]'(by rw [cnC_len]; omega) := by
      have := flat_get cnC_len (xs.set k y) (i / 7) (i % 7) (by omega) (by omega)
      rw [show i / 7 * 7 + i % 7 = i by omega] at this
      rw [List.getD_eq_getElem?_getD, this]
      rfl
    have hget0 : (flat cnC xs).getD i (.int .i64 0) = (cnC xs[i / 7])[i % 7]'(by rw [cnC_len]; omega) := by
      have := flat_get cnC_len xs (i / 7) (i % 7) hiq (by omega)
      rw [show i / 7 * 7 + i % 7 = i by omega] at this
      rw [List.getD_eq_getElem?_getD, this]
      rfl
    by_cases hik : i / 7 = k
    · have hy : (xs.set k y)[i / 7]'(by omega) = y := by
        simp only [hik]
        exact List.getElem_set_self _
      simp only [hget, hy]
      have hm : i % 7 = 0 ∨ i % 7 = 1 ∨ i % 7 = 2 ∨ i % 7 = 3 ∨ i % 7 = 4 ∨ i % 7 = 5 ∨ i % 7 = 6 := by omega
      rcases hm with hm | hm | hm | hm | hm | hm | hm <;> simp only [hm]
      · rw [if_neg (by omega), if_neg (by omega), if_neg (by omega), if_neg (by omega), if_neg (by omega), if_neg (by omega), if_pos (by omega)]; rfl
      · rw [if_neg (by omega), if_neg (by omega), if_neg (by omega), if_neg (by omega), if_neg (by omega), if_pos (by omega)]; rfl
      · rw [if_neg (by omega), if_neg (by omega), if_neg (by omega), if_neg (by omega), if_pos (by omega)]; rfl
      · rw [if_neg (by omega), if_neg (by omega), if_neg (by omega), if_pos (by omega)]; rfl
      · rw [if_neg (by omega), if_neg (by omega), if_pos (by omega)]; rfl
      · rw [if_neg (by omega), if_pos (by omega)]; rfl
      · rw [if_pos (by omega)]; rfl
    · have hy : (xs.set k y)[i / 7]'(by omega) = xs[i / 7] := List.getElem_set_ne (fun h => hik h.symm) _
      simp only [hget, hy]
      rw [if_neg (by omega), if_neg (by omega), if_neg (by omega), if_neg (by omega), if_neg (by omega), if_neg (by omega), if_neg (by omega), hget0]
/-- the rest of a list behind its first element -/
theorem FO.tail {w : World} {b off cap : Nat} {x : Wn} {xs : List Wn} {bs : List Nat} (h : FO wnC 4 w (.slice (some ⟨b, off, none⟩) (x :: xs).length cap) (x :: xs) bs) (c' : Nat) : FO wnC 4 w (.slice (some ⟨b, off + 4, none⟩) xs.length c') xs bs := by
  obtain ⟨hl, ⟨a, cap', e, hn, _⟩ | ⟨b', off', cap', e, hlt, rfl, hc⟩⟩ := h
  · simp at hn
  · injection e with e1 _ e2
    injection e1 with e1
    injection e1 with e3 e4 _
    subst e3 e4 e2
    refine ⟨by simp at hl; omega, .inr ⟨b, off + 4, c', rfl, hlt, rfl, fun i hi => ?_⟩⟩
    have := hc (4 + i) (by simp; omega)
    rw [← Nat.add_assoc] at this
    refine ⟨this.1.trans ?_, this.2⟩
    simp only [flat, List.map_cons, List.flatten_cons, List.getD_eq_getElem?_getD]
    rw [List.getElem?_append_right (by rw [wnC_len]; omega), wnC_len, Nat.add_sub_cancel_left]
theorem slice1 (b o n c : Nat) (w : World) : (Instr.slice 25 (.slice (some ⟨b, o, none⟩) (n + 1) c) (some (.int .i64 1)) none none).run Tryd.prog w = .ok (.slice (if c = 1 then some ⟨b, o, none⟩ else some ⟨b, o + 4, none⟩) n (c - 1)) w := by
  have h1 : (1 : Int) ≤ (n : Int) + 1 := by omega
  simp [go_sem, Tryd.underlying25, h1]
theorem FO.tailAt {w : World} {b off c : Nat} {x : Wn} {xs : List Wn} {bs : List Nat} (h : FO wnC 4 w (.slice (some ⟨b, off, none⟩) (xs.length + 1) c) (x :: xs) bs) (hc : xs.length + 1 ≤ c) (hz : ∀ i (h : i < xs.length), wnZ xs[i]) :
    WnsAt 0 w (.slice (if c = 1 then some ⟨b, off, none⟩ else some ⟨b, off + 4, none⟩) xs.length (c - 1)) xs := by
  by_cases h1 : c = 1
  · have : xs = [] := List.length_eq_zero_iff.1 (by omega)
    subst this
    exact ⟨by simp, .inl ⟨_, _, rfl, rfl⟩⟩
  · rw [if_neg h1]
    exact (FO.tail (cap := c) h (c - 1)).at wnC_len hz (fun _ _ => Nat.zero_le _)
end Go.Proofs.YtfdefjdogmhinaaDoor.Msg

namespace Go.Proofs.YtfdefjdogmhinaaDoor.Msg
open Go.ChangeShapes Go.WideShapes Go.ChangeAt Go.RowKit
set_option linter.unusedVariables false
set_option linter.unusedSimpArgs false

def lnA (c : Cn) (i : Nat) : Array Value := #[.bool c.busy, .string c.control, .int .i64 c.want.client, .string c.want.tag, .string c.want.query, .string c.want.pointer, .int .i64 c.due, .int .i64 (i : Int)]
/-- what is asked of strconv.Itoa, in every world that keeps the blocks below lo -/
def Ito (lo : Nat) (w : World) : Prop := ∀ W, Below lo w W → ∀ u : Nat, u ≤ 9999999 → Calls Tryd.prog 58 #[.int .i64 (u : Int)] W fun e W' => e = .returned (.string (decT u)) ∧ Below W.heap.size W W'
theorem Ito.keep {lo : Nat} {w w' : World} (h : Ito lo w) (hb : Below lo w w') : Ito lo w' := fun W hW u hu => h W (hb.trans hW) u hu

set_option maxHeartbeats 1000000 in
theorem upControl_any (e n : Nat) (w : World) {lo : Nat} (hI : Ito lo w) (hlo : lo ≤ w.heap.size) (he : e ≤ 9999999) (hn : n ≤ 9999999) :
    Calls Tryd.prog 54 #[.int .i64 (e : Int), .int .i64 (n : Int)] w fun en w' => en = .returned (.string (ctlOf (e : Int) (n : Int))) ∧ Below w.heap.size w w' := by
  have hs1 : (decT e).size ≤ 7 := decT_size e he
  have hs2 : (decT n).size ≤ 7 := decT_size n hn
  have H1 := hide (hI w (Below.refl _ _) e he)
  have H2 := hide (fun W hW => hI W hW n hn)
  go_enter Tryd.func54, Tryd.ntmps54
  go_wp2_with fail
  refine H1.out.mono ?_
  rintro en W1 ⟨rfl, hb1⟩
  have HB1 := hide hb1
  clear hb1
  go_wp2_with fail
  refine (H2.out _ (HB1.out.mono hlo)).mono ?_
  rintro en W2 ⟨rfl, hb2⟩
  have HB2 := hide (bjoin hb2 HB1.out)
  clear hb2
  go_wp2_with fail
  go_ret
  exact ⟨rfl, HB2.out⟩

set_option maxRecDepth 100000 in
set_option maxHeartbeats 2000000 in
theorem lineKey_any (c : Cn) (i L : Nat) (w : World) (h : Box w L 68 (lnA c i)) :
    Calls Tryd.prog 41 #[.pointer (some ⟨L, 0, none⟩)] w fun en w' => en = .returned (.agg #[.int .i64 (i : Int), .string c.control]) ∧ Below w.heap.size w w' := by
  have hL := h.lt
  have e7 : w.cell? ⟨L, 7, none⟩ = some (.int .i64 (i : Int)) := h.cell 7 (by simp [lnA])
  have e1 : w.cell? ⟨L, 1, none⟩ = some (.string c.control) := h.cell 1 (by simp [lnA])
  obtain ⟨w1, hw1⟩ : ∃ w1, w.alloc (Obj.cells #[.int .i64 0, .string ByteArray.empty] 66) = w1 := ⟨_, rfl⟩
  obtain ⟨D, hD⟩ : ∃ D, w1.drew = D := ⟨_, rfl⟩
  have hb : Below w.heap.size w D := by rw [← hD, ← hw1]; exact ((Below.refl w.heap.size w).alloc (Nat.le_refl _) _).drew
  have f7 : D.cell? ⟨L, 7, none⟩ = some (.int .i64 (i : Int)) := by rw [hb.cell (p := ⟨L, 7, none⟩) hL]; exact e7
  have f1 : D.cell? ⟨L, 1, none⟩ = some (.string c.control) := by rw [hb.cell (p := ⟨L, 1, none⟩) hL]; exact e1
  have hX : Box D w.heap.size 66 #[.int .i64 0, .string ByteArray.empty] := by rw [← hD, ← hw1]; exact Box.new _ _ _
  have x0 : D.cell? ⟨w.heap.size, 0, none⟩ = some (.int .i64 0) := hX.cell 0 (by simp)
  have x1 : D.cell? ⟨w.heap.size, 1, none⟩ = some (.string ByteArray.empty) := hX.cell 1 (by simp)
  have y0 := hX.frozen 0
  have y1 := hX.frozen 1
  have hz := hX.lt
  have HB : Hid (∀ u v, Below w.heap.size w ((D.setCell ⟨w.heap.size, 0, none⟩ u).setCell ⟨w.heap.size, 1, none⟩ v)) := fun u v => (hb.setCell (by simp) _).setCell (by simp) _
  clear hb hX h
  go_enter Tryd.func41, Tryd.ntmps41
  go_wp2_with fail
  go_region_law (fail)
  all_goals
    go_wp2_with fail
    exact bodyPost_ret (v := .agg #[.int .i64 (i : Int), .string c.control]) (by simp [results, Tryd.results41, go_sem, x0, x1, hz]) rfl ⟨rfl, ((Below.refl w.heap.size w).alloc (Nat.le_refl _) _).drew⟩
end Go.Proofs.YtfdefjdogmhinaaDoor.Msg
