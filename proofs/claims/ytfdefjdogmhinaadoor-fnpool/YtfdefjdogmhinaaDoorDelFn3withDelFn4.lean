import Derived.Test.YtfdefjdogmhinaaDoorDelFnwithDelFn2
import Derived.Test.YtfdefjdogmhinaaDoorDeskSendwithDeskOf2
namespace Go.Proofs.YtfdefjdogmhinaaDoor.Msg
open Go.ChangeShapes Go.WideShapes Go.ChangeAt Go.RowKit
set_option linter.unusedVariables false
set_option linter.unusedSimpArgs false

def thI (c : Int) (t : ByteArray) (qs : List Wn) : Int := if qs.findIdx (thB c t) < qs.length then (qs.findIdx (thB c t) : Int) else -1
theorem thI_at {c : Int} {t : ByteArray} {qs : List Wn} {k : Nat} (h : k < qs.length) (hb : thB c t qs[k] = true) (ha : ∀ i (hi : i < qs.length), i < k → thB c t qs[i] = false) : qs.findIdx (thB c t) = k :=
  (List.findIdx_eq h).2 ⟨hb, fun j hj => ha j (by omega) hj⟩
theorem thI_all {c : Int} {t : ByteArray} {qs : List Wn} (ha : ∀ i (hi : i < qs.length), thB c t qs[i] = false) : qs.findIdx (thB c t) = qs.length :=
  List.findIdx_eq_length.2 fun x hx => by
    obtain ⟨i, hi, e⟩ := List.getElem_of_mem hx
    rw [← e]; exact ha i hi

set_option maxRecDepth 100000 in
set_option maxHeartbeats 4000000 in
theorem indexTh_any (client : Int) (tag : ByteArray) (qs : List Wn) (v : Value) (Bc Bt : Nat) (w : World) {lo : Nat} (hv : WnsAt lo w v qs) (hc : Box w Bc 3 #[.int .i64 client]) (ht : Box w Bt 9 #[.string tag]) :
    Calls Tryd.prog 49 #[v, .func (.func 33) #[] #[.pointer (some ⟨Bc, 0, none⟩), .pointer (some ⟨Bt, 0, none⟩)]] w fun en w' => en = .returned (.int .i64 (thI client tag qs)) ∧ Below w.heap.size w w' := by
  have hl := hv.1
  obtain ⟨a1, c1, rfl, _⟩ := hv.form
  have HCV := hide hv
  have HTH : Hid (∀ q W, Below w.heap.size w W → Calls Tryd.prog 33 #[wnV q, .pointer (some ⟨Bc, 0, none⟩), .pointer (some ⟨Bt, 0, none⟩)] W fun en w' => en = .returned (.bool (thB client tag q)) ∧ Below W.heap.size W w') := fun q W hW => theirs_any client tag q Bc Bt W ((hc.below hW).cell 0 (by simp)) ((ht.below hW).cell 0 (by simp))
  unfold wnV at HTH
  clear hv hc ht
  go_enter Tryd.func49, Tryd.ntmps49
  go_wp2_with fail
  go_loopw [8] (fun i wx => ∃ k : Nat, k ≤ qs.length ∧ i = .int .i64 k ∧ (∀ i (hi : i < qs.length), i < k → thB client tag qs[i] = false) ∧ Below w.heap.size w wx) (fun i _ => qs.length - (intOf i).toNat)
  case atStart => exact ⟨0, Nat.zero_le _, rfl, fun i hi h => absurd h (by omega), Below.refl _ _⟩
  case round =>
    obtain ⟨k, hk, rfl, hall, hb⟩ := hrel
    by_cases hlt : k < qs.length
    · obtain ⟨b, off, rfl, hbl, hel, _⟩ := at_place HCV.out hlt
      have hi : (k : Int) < (qs.length : Int) := by omega
      obtain ⟨x, hx⟩ : ∃ x, qs[k] = x := ⟨_, rfl⟩
      rw [hx] at hel
      have hown : ∀ j (hj : j < 4), wr.cell? ⟨b, off + k * 4 + j, none⟩ = some ((wnC x)[j]'(by rw [wnC_len]; exact hj)) := fun j hj => by
        rw [hb.cell (p := ⟨b, off + k * 4 + j, none⟩) hbl]
        exact hel j (by rw [wnC_len]; exact hj)
      have g0 : wr.cell? ⟨b, off + k * 4, none⟩ = some (.int .i64 x.client) := hown 0 (by omega)
      have g1 : wr.cell? ⟨b, off + k * 4 + 1, none⟩ = some (.string x.tag) := hown 1 (by omega)
      have g2 : wr.cell? ⟨b, off + k * 4 + 2, none⟩ = some (.string x.query) := hown 2 (by omega)
      have g3 : wr.cell? ⟨b, off + k * 4 + 3, none⟩ = some (.string x.pointer) := hown 3 (by omega)
      have HIF := hide (HTH.out x wr hb)
      have HB := hide hb
      cases hbz : thB client tag x with
      | false =>
        have HN : Hid (∀ i (hi : i < qs.length), i < k + 1 → thB client tag qs[i] = false) := fun i hi h => by
          by_cases e1 : i = k
          · subst e1; rw [hx]; exact hbz
          · exact hall i hi (by omega)
        rw [hbz] at HIF
        clear hall hbz hel hown hx hb
        go_wp2_with (go_at_call 33; refine HIF.out.mono ?_; rintro en W2 ⟨rfl, hb2⟩)
        go_roundw
        case rel => exact ⟨k + 1, by omega, by go_num, HN.out, bjoin hb2 HB.out⟩
        case measure => simp [intOf]; omega
      | true =>
        have HN : Hid (thI client tag qs = (k : Int)) := by
          have := thI_at hlt (by rw [hx]; exact hbz) hall
          unfold thI
          rw [this, if_pos hlt]
          exact rfl
        rw [hbz] at HIF
        clear hall hbz hel hown hx hb
        go_wp2_with (go_at_call 33; refine HIF.out.mono ?_; rintro en W2 ⟨rfl, hb2⟩)
        go_ret
        exact ⟨ret_int HN.out.symm, bjoin hb2 HB.out⟩
    · have HN : Hid (thI client tag qs = -1) := by
        have := thI_all (qs := qs) fun i hi => hall i hi (by omega)
        unfold thI
        rw [this, if_neg (by omega)]
        exact rfl
      have HB := hide hb
      clear hall hb
      go_wp2_with fail
      go_ret
      exact ⟨ret_int HN.out.symm, HB.out⟩

theorem sliceFrom (g n c i : Nat) (hi : i ≤ n) (hic : i < c) (w : World) : (Instr.slice 25 (.slice (some ⟨g, 0, none⟩) n c) (some (.int .i64 (i : Int))) none none).run Tryd.prog w = .ok (.slice (some ⟨g, i * 4, none⟩) (n - i) (c - i)) w := by
  have h1 : (i : Int) ≤ (n : Int) := by omega
  have h2 : c - i ≠ 0 := by omega
  have h3 : ¬ c ≤ i := by omega
  simp [go_sem, Tryd.underlying25, h1, h2, h3]
  omega
theorem sliceTo (g n c i : Nat) (hi : i ≤ n) (hn : n ≤ c) (w : World) : (Instr.slice 25 (.slice (some ⟨g, 0, none⟩) n c) none (some (.int .i64 (i : Int))) none).run Tryd.prog w = .ok (.slice (some ⟨g, 0, none⟩) i c) w := by
  have h1 : (i : Int) ≤ (c : Int) := by omega
  simp [go_sem, Tryd.underlying25, h1]
end Go.Proofs.YtfdefjdogmhinaaDoor.Msg

namespace Go.Proofs.YtfdefjdogmhinaaDoor.Msg
open Go.ChangeShapes Go.WideShapes Go.ChangeAt Go.RowKit
set_option linter.unusedVariables false
set_option linter.unusedSimpArgs false

theorem wpList_clr {ops : Array Oper} {rest : List Oper} {o : Oper} {a : Act} {Q : Exit → Act → World → Prop} {w w' : World} {v v' : Value} (hgd : o.guard = none) (s : Operand) (t : TypeId)
    (ho : o.op = .call { callee := .builtin .clear, args := #[s], argTypes := #[t] }) (hr : (Builtin.clear_ #[t] o.type #[v]).run Tryd.prog w = .ok v' w') (hs : a.eval s = v) (h : wpList Tryd.prog ops Q rest (a.put o.dst v') w') :
    wpList Tryd.prog ops Q (o :: rest) a w := by
  refine wpList_plain hgd fun K hK => ?_
  unfold Oper.wp execOp
  simp only [ho, resolve, invoke, builtin, Sem.run_bind, Sem.run_pure, Result.andThen_ok, List.map_toArray, List.map_cons, List.map_nil, hs, hr]
  exact hK _ _ h

theorem FB.at4 {base : Nat} {w : World} {g n cap : Nat} {ys : List Wn} (h : FB wnC 4 33 base w (.slice (some ⟨g, 0, none⟩) n cap) ys) {j : Nat} (hj : j < ys.length) :
    (w.cell? ⟨g, j * 4, none⟩ = some (.int .i64 ys[j].client) ∧ w.cell? ⟨g, j * 4 + 1, none⟩ = some (.string ys[j].tag) ∧ w.cell? ⟨g, j * 4 + 2, none⟩ = some (.string ys[j].query) ∧ w.cell? ⟨g, j * 4 + 3, none⟩ = some (.string ys[j].pointer)) ∧ ∀ o, w.frozen? ⟨g, o, none⟩ = false := by
  obtain ⟨hlen, ⟨e, h0⟩ | ⟨g', cap', cur, e, hg, hs, hcap, hm, hsz, htk⟩⟩ := h
  · cases e
  · injection e with e1 e2 e3
    injection e1 with e1
    injection e1 with e1 _ _
    subst e1 e3
    have hB : Box w g 33 cur := hs
    have hj4 : (j + 1) * 4 ≤ ys.length * 4 := Nat.mul_le_mul_right 4 hj
    have hc : ∀ r (hr : r < 4), w.cell? ⟨g, j * 4 + r, none⟩ = some ((wnC ys[j])[r]'(by rw [wnC_len]; exact hr)) := fun r hr => by
      rw [hB.cellAt]
      have hold := flat_get wnC_len ys j r hj hr
      rw [← htk, List.getElem?_take, if_pos (by omega), Array.getElem?_toList] at hold
      exact hold
    exact ⟨⟨hc 0 (by omega), hc 1 (by omega), hc 2 (by omega), hc 3 (by omega)⟩, fun o => hB.frozen o⟩
theorem FB.boxG {base : Nat} {w : World} {g n cap : Nat} {ys : List Wn} (h : FB wnC 4 33 base w (.slice (some ⟨g, 0, none⟩) n cap) ys) : base ≤ g ∧ (∃ cur, Box w g 33 cur ∧ cur.size = cap * 4) ∧ n = ys.length ∧ n ≤ cap ∧ cap ≤ 9223372036854775807 := by
  obtain ⟨a, c, e, h1, h2⟩ := h.form
  obtain ⟨hlen, ⟨e, h0⟩ | ⟨g', cap', cur, e, hg, hs, hcap, hm, hsz, htk⟩⟩ := h
  · cases e
  · injection e with e1 e2 e3
    injection e1 with e1
    injection e1 with e1 _ _
    subst e1 e3
    injection ‹Value.slice _ _ _ = Value.slice a _ c› with _ e5 e6
    subst e6
    exact ⟨hg, ⟨cur, hs, hsz⟩, e2, by omega, h2⟩
/-- the rest of a row is cleared -/
theorem FB.cleared {base : Nat} {w : World} {g n cap : Nat} {ys : List Wn} (h : FB wnC 4 33 base w (.slice (some ⟨g, 0, none⟩) n cap) ys) {i : Nat} (hi : i ≤ ys.length) (ty : TypeId) :
    ∃ w', (Builtin.clear_ #[25] ty #[.slice (some ⟨g, i * 4, none⟩) (n - i) (cap - i)]).run Tryd.prog w = .ok (.tuple #[]) w' ∧ Only [g] w w' ∧ FB wnC 4 33 base w' (.slice (some ⟨g, 0, none⟩) i cap) (ys.take i) := by
  obtain ⟨hlen, ⟨e, h0⟩ | ⟨g', cap', cur, e, hg, hs, hcap, hm, hsz, htk⟩⟩ := h
  · cases e
  · injection e with e1 e2 e3
    injection e1 with e1
    injection e1 with e1 _ _
    subst e1 e3
    have hB : Box w g 33 cur := hs
    obtain ⟨w', arr', hr, ho, hB', hs', hat⟩ := clearW (o := i * 4) (n := n - i) (c := cap - i) hB (by rw [hsz]; omega) ty
    refine ⟨w', hr, ho, by rw [flat_len wnC_len], .inr ⟨g, cap, arr', by rw [List.length_take, Nat.min_eq_left hi], hg, hB', by rw [List.length_take]; omega, hm, by rw [hs', hsz], ?_⟩⟩
    rw [List.length_take, Nat.min_eq_left hi]
    apply List.ext_getElem?
    intro m
    by_cases hmn : m < i * 4
    · have hq : m / 4 < i := (Nat.div_lt_iff_lt_mul (by omega)).2 hmn
      have hr : m % 4 < 4 := Nat.mod_lt _ (by omega)
      have em : m / 4 * 4 + m % 4 = m := Nat.div_add_mod' m 4
      have hold := flat_get wnC_len ys (m / 4) (m % 4) (by omega) hr
      rw [em, ← htk, List.getElem?_take, if_pos (by omega), Array.getElem?_toList] at hold
      have hnew := flat_get wnC_len (ys.take i) (m / 4) (m % 4) (by rw [List.length_take]; omega) hr
      rw [em] at hnew
      rw [hnew, List.getElem?_take, if_pos hmn, Array.getElem?_toList, hat m hmn, hold, List.getElem_take]
    · rw [List.getElem?_eq_none (by simp; omega), List.getElem?_eq_none (by rw [flat_len wnC_len, List.length_take]; omega)]

/-- the loop's state: i are kept of the first j -/
def DelL (lo : Nat) (w0 : World) (g cap : Nat) (c : Int) (t : ByteArray) (qs : List Wn) (i j : Nat) (wx : World) : Prop :=
  ∃ ys : List Wn, FB wnC 4 33 lo wx (.slice (some ⟨g, 0, none⟩) qs.length cap) ys ∧ ys.length = qs.length ∧ ys.take i = (qs.take j).filter (fun q => !thB c t q) ∧ ys.drop j = qs.drop j ∧ i < j ∧ j ≤ qs.length ∧ Only [g] w0 wx
theorem DelL.start {lo : Nat} {w : World} {g cap : Nat} {c : Int} {t : ByteArray} {qs : List Wn} (h : FB wnC 4 33 lo w (.slice (some ⟨g, 0, none⟩) qs.length cap) qs) {w0 : World} (ho : Only [g] w0 w) {k : Nat} (hk : k < qs.length) (hb : thB c t qs[k] = true) (ha : ∀ i (hi : i < qs.length), i < k → thB c t qs[i] = false) : DelL lo w0 g cap c t qs k (k + 1) w := by
  refine ⟨qs, h, rfl, ?_, rfl, by omega, hk, ho⟩
  have h1 : qs.take (k + 1) = qs.take k ++ [qs[k]] := by rw [List.take_add_one, List.getElem?_eq_getElem hk]; rfl
  rw [h1, List.filter_append]
  have h2 : (qs.take k).filter (fun q => !thB c t q) = qs.take k := List.filter_eq_self.2 fun a ha' => by
    obtain ⟨i, hi, e⟩ := List.getElem_of_mem ha'
    rw [List.getElem_take] at e
    rw [← e, ha i (by rw [List.length_take] at hi; omega) (by rw [List.length_take] at hi; omega)]
    rfl
  rw [h2]
  simp [hb]
theorem DelL.below {lo : Nat} {w0 wx wy : World} {g cap : Nat} {c : Int} {t : ByteArray} {qs : List Wn} {i j : Nat} (h : DelL lo w0 g cap c t qs i j wx) (hb : Below wx.heap.size wx wy) : DelL lo w0 g cap c t qs i j wy := by
  obtain ⟨ys, h1, h2, h3, h4, h5, h6, h7⟩ := h
  exact ⟨ys, h1.below hb, h2, h3, h4, h5, h6, h7.trans (Only.of_below hb)⟩
theorem drop_at {ys qs : List Wn} {j : Nat} (h : ys.drop j = qs.drop j) (hl : ys.length = qs.length) (hj : j < qs.length) : ys[j]'(by omega) = qs[j] := by
  have := congrArg (·[0]?) h
  simp only [List.getElem?_drop, Nat.add_zero] at this
  rw [List.getElem?_eq_getElem (by omega), List.getElem?_eq_getElem hj] at this
  injection this
theorem DelL.at {lo : Nat} {w0 wx : World} {g cap : Nat} {c : Int} {t : ByteArray} {qs : List Wn} {i j : Nat} (h : DelL lo w0 g cap c t qs i j wx) (hj : j < qs.length) :
    (wx.cell? ⟨g, j * 4, none⟩ = some (.int .i64 qs[j].client) ∧ wx.cell? ⟨g, j * 4 + 1, none⟩ = some (.string qs[j].tag) ∧ wx.cell? ⟨g, j * 4 + 2, none⟩ = some (.string qs[j].query) ∧ wx.cell? ⟨g, j * 4 + 3, none⟩ = some (.string qs[j].pointer)) := by
  obtain ⟨ys, h1, h2, h3, h4, h5, h6, h7⟩ := h
  have := (h1.at4 (j := j) (by omega)).1
  rw [drop_at h4 h2 hj] at this
  exact this
theorem DelL.to {lo : Nat} {w0 wx : World} {g cap : Nat} {c : Int} {t : ByteArray} {qs : List Wn} {i j : Nat} (h : DelL lo w0 g cap c t qs i j wx) :
    ∃ y : Wn, (wx.cell? ⟨g, i * 4, none⟩ = some (.int .i64 y.client) ∧ wx.cell? ⟨g, i * 4 + 1, none⟩ = some (.string y.tag) ∧ wx.cell? ⟨g, i * 4 + 2, none⟩ = some (.string y.query) ∧ wx.cell? ⟨g, i * 4 + 3, none⟩ = some (.string y.pointer)) ∧ ∀ o, wx.frozen? ⟨g, o, none⟩ = false := by
  obtain ⟨ys, h1, h2, h3, h4, h5, h6, h7⟩ := h
  exact ⟨_, h1.at4 (j := i) (by omega)⟩
theorem take_one {qs : List Wn} {j : Nat} (hj : j < qs.length) : qs.take (j + 1) = qs.take j ++ [qs[j]] := by rw [List.take_add_one, List.getElem?_eq_getElem hj]; rfl
theorem drop_one {ys qs : List Wn} {j : Nat} (h : ys.drop j = qs.drop j) : ys.drop (j + 1) = qs.drop (j + 1) := by
  have := congrArg (List.drop 1) h
  simpa [List.drop_drop] using this
theorem DelL.skip {lo : Nat} {w0 wx : World} {g cap : Nat} {c : Int} {t : ByteArray} {qs : List Wn} {i j : Nat} (h : DelL lo w0 g cap c t qs i j wx) (hj : j < qs.length) (hb : thB c t qs[j] = true) : DelL lo w0 g cap c t qs i (j + 1) wx := by
  obtain ⟨ys, h1, h2, h3, h4, h5, h6, h7⟩ := h
  exact ⟨ys, h1, h2, by rw [h3, take_one hj, List.filter_append]; simp [hb], drop_one h4, by omega, hj, h7⟩
theorem DelL.put {lo : Nat} {w0 wx : World} {g cap : Nat} {c : Int} {t : ByteArray} {qs : List Wn} {i j : Nat} (h : DelL lo w0 g cap c t qs i j wx) (hj : j < qs.length) (hb : thB c t qs[j] = false) : DelL lo w0 g cap c t qs (i + 1) (j + 1) (put4 wx g (i * 4) qs[j]) := by
  obtain ⟨ys, h1, h2, h3, h4, h5, h6, h7⟩ := h
  refine ⟨ys.set i qs[j], h1.put4 (by omega) _ rfl, by simp [h2], ?_, ?_, by omega, hj, h7.trans (put4_only _ _ _ _)⟩
  · rw [take_one hj, List.filter_append, ← h3, take_one (qs := ys.set i qs[j]) (by simp; omega), List.take_set_of_le (Nat.le_refl _)]
    simp [hb]
  · rw [List.drop_set_of_lt (by omega)]
    exact drop_one h4
end Go.Proofs.YtfdefjdogmhinaaDoor.Msg
