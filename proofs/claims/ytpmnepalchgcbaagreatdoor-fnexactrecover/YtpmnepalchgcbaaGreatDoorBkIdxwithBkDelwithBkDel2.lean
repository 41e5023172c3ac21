import Derived.Test.YtpmnepalchgcbaaGreatDoorBkStepwithBkStep2withBkStep3
import Derived.LaidEqlPtr
import Derived.Lib.SliceRun
namespace Go.Proofs.YtpmnepalchgcbaaGreatDoor.Msg
open Go.ChangeShapes Go.WideShapes Go.ChangeAt Go.RowKit
set_option linter.unusedVariables false
set_option linter.unusedSimpArgs false

/-! slices.Index of sessions -/
set_option maxRecDepth 100000 in
set_option maxHeartbeats 4000000 in
theorem indexP_any (bs : List Nat) (i : Nat) (g n c : Nat) (w : World) (hv : ∀ j (h : j < bs.length), w.cell? ⟨g, j, none⟩ = some (.pointer (some ⟨bs[j], 0, none⟩))) (hh : ∀ b ∈ bs, ∃ cs, w.heap[b]? = some (.cells cs 51 (0, 0))) (hn : bs.length = n) (hl : n ≤ 1000) (hi : i < bs.length) {b : Nat} (hb : bs[i] = b) (hnd : bs.Nodup) :
    Calls Tryz.prog 93 #[.slice (some ⟨g, 0, none⟩) n c, .pointer (some ⟨b, 0, none⟩)] w fun e w' => e = .returned (.int .i64 (i : Int)) ∧ w' = w := by
  have HV := hide hv
  have HH := hide hh
  obtain ⟨i0, hi0, _, hz1, _⟩ := info_parts info_Sess
  have HN := hide hn
  have HI := hide hi
  have HND : Hid (∀ j (h : j < bs.length), j < i → bs[i] ≠ bs[j]) := fun j h hji e => List.pairwise_iff_getElem.1 hnd j i h HI.out hji e.symm
  have HBI : Hid (bs[i]'HI.out = b) := hb
  have hin : i < n := by omega
  clear hv hn hb hnd hi hh
  go_enter Tryz.func93, Tryz.ntmps93
  go_wp2_with fail
  go_loopg [8] n (fun q v wr => ∃ k : Nat, k ≤ i ∧ q = n - k ∧ v = .int .i64 (k : Int) ∧ wr = w)
  case atStart => exact ⟨0, Nat.zero_le _, rfl, rfl, rfl⟩
  case round =>
    obtain ⟨k, hk, rfl, rfl, rfl⟩ := hrel
    have hki : (k : Int) < (n : Int) := by omega
    have hk0 : (0 : Int) ≤ (k : Int) := by omega
    have hkl : k < bs.length := by rw [HN.out]; omega
    by_cases he : k = i
    · subst he
      have m0 : wr.cell? ⟨g, k, none⟩ = some (.pointer (some ⟨b, 0, none⟩)) := by rw [← HBI.out]; exact HV.out k hkl
      have he : ∀ W : World, (binOp .eql 49 (.pointer (some ⟨b, 0, none⟩)) (.pointer (some ⟨b, 0, none⟩))).run Tryz.prog W = .ok (.bool true) W := fun W => run_eql_ptr_same W ⟨b, 0, none⟩ Tryz.underlying49 hi0
      go_wp2_with fail
      go_ret
      exact ⟨rfl, rfl⟩
    · obtain ⟨z, hz⟩ : ∃ z, bs[k] = z := ⟨_, rfl⟩
      have m0 : wr.cell? ⟨g, k, none⟩ = some (.pointer (some ⟨z, 0, none⟩)) := by rw [← hz]; exact HV.out k hkl
      have hne : b ≠ z := by rw [← hz, ← HBI.out]; exact HND.out k hkl (by omega)
      have he : (binOp .eql 49 (.pointer (some ⟨b, 0, none⟩)) (.pointer (some ⟨z, 0, none⟩))).run Tryz.prog wr = .ok (.bool false) wr := by
        obtain ⟨cb, eb⟩ := HH.out b (by rw [← HBI.out]; exact List.getElem_mem _)
        obtain ⟨cz, ez⟩ := HH.out z (by rw [← hz]; exact List.getElem_mem _)
        exact run_eql_ptr_other wr Tryz.underlying49 hi0 (by rw [hz1]; decide) (fun e => hne (by injection e)) eb ez
      clear hz
      go_wp2_with fail
      go_roundg (n - (k + 1))
      case measure => omega
      case rel => exact ⟨k + 1, by omega, rfl, by go_num, rfl⟩
end Go.Proofs.YtpmnepalchgcbaaGreatDoor.Msg

namespace Go.Proofs.YtpmnepalchgcbaaGreatDoor.Msg
open Go.ChangeShapes Go.WideShapes Go.ChangeAt Go.RowKit
set_option linter.unusedVariables false
set_option linter.unusedSimpArgs false

/-! slices.Delete of one session's place: the pieces -/
theorem Box.setCellsP : ∀ (L : List Value) (o : Nat) {w : World} {b : Nat} {t : TypeId} {arr : Array Value}, Box w b t arr → ∃ arr', Box (w.setCells b o L) b t arr' ∧ arr'.size = arr.size ∧ ∀ i, i < o → arr'[i]? = arr[i]?
  | [], o, w, b, t, arr, h => ⟨arr, h, rfl, fun _ _ => rfl⟩
  | v :: L, o, w, b, t, arr, h => by
    obtain ⟨arr', h1, h2, h3⟩ := Box.setCellsP L (o + 1) (h.set o v)
    refine ⟨arr', h1, by rw [h2, Array.size_setIfInBounds], fun i hi => ?_⟩
    rw [h3 i (by omega), Array.getElem?_setIfInBounds_ne (by omega)]
theorem Only.setCellsP : ∀ (L : List Value) (o : Nat) {w w0 : World} {b : Nat}, Only [b] w0 w → Only [b] w0 (w.setCells b o L)
  | [], _, _, _, _, h => h
  | v :: L, o, w, w0, b, h => Only.setCellsP L (o + 1) (h.setCell (by simp) v)
theorem Box.cellAtP {w : World} {b : Nat} {t : TypeId} {arr : Array Value} (h : Box w b t arr) (i : Nat) : w.cell? ⟨b, i, none⟩ = arr[i]? := by
  unfold Box at h
  simp [World.cell?, h]
theorem clearP {w : World} {b o n c : Nat} {arr : Array Value} (h : Box w b 49 arr) (hn : o + n ≤ arr.size) (ty : TypeId) :
    ∃ w' arr', (Builtin.clear_ #[45] ty #[.slice (some ⟨b, o, none⟩) n c]).run Tryz.prog w = .ok (.tuple #[]) w' ∧ Only [b] w w' ∧ Box w' b 49 arr' ∧ arr'.size = arr.size ∧ ∀ i, i < o → arr'[i]? = arr[i]? := by
  cases n with
  | zero =>
    refine ⟨w, arr, ?_, Only.refl _ _, h, rfl, fun _ _ => rfl⟩
    simp [Builtin.clear_, Tryz.underlying45, go_sem]
  | succ m =>
    obtain ⟨L, hL⟩ : ∃ L, (Builtin.zeroCells (#[.pointer none] : Array Value) (m + 1)).toList = L := ⟨_, rfl⟩
    have hLl : L.length = m + 1 := by rw [← hL]; simp [Builtin.zeroCells]
    have hL1 : ∀ v ∈ L, v.oneCell' = true := fun v hv => by
      rw [← hL] at hv
      simp [Builtin.zeroCells] at hv
      obtain ⟨a, _, rfl⟩ := hv
      rw [Nat.mod_one]
      rfl
    have hst := run_storeCells_cells (P := Tryz.prog) b o L 0 w (fun j hj => by rw [Nat.add_zero, h.cellAtP, Array.getElem?_eq_getElem (by omega)]; rfl) (fun j hj => by rw [Nat.add_zero]; exact h.frozen _) hL1
    rw [Nat.add_zero] at hst
    obtain ⟨arr', h1, h2, h3⟩ := h.setCellsP L o
    refine ⟨w.setCells b o L, arr', ?_, Only.setCellsP L o (Only.refl _ _), h1, h2, h3⟩
    simp [Builtin.clear_, Tryz.underlying45, go_sem, zeroPtr, Value.cells, hL, hst]
theorem flatP_take (bs : List Nat) (i : Nat) : flat pC (bs.take i) = (flat pC bs).take i := by
  have e : ∀ xs : List Nat, flat pC xs = xs.map fun b => .pointer (some ⟨b, 0, none⟩) := fun xs => by
    induction xs with
    | nil => rfl
    | cons x l ih => simp [flat, pC] at ih ⊢; exact ih
  rw [e, e, List.map_take]
theorem flatP_get (bs : List Nat) (j : Nat) : (flat pC bs)[j]? = bs[j]?.map fun b => .pointer (some ⟨b, 0, none⟩) := by
  have e : ∀ xs : List Nat, flat pC xs = xs.map fun b => .pointer (some ⟨b, 0, none⟩) := fun xs => by
    induction xs with
    | nil => rfl
    | cons x l ih => simp [flat, pC] at ih ⊢; exact ih
  rw [e, List.getElem?_map]
theorem FB.rowCell {base : Nat} {w : World} {g n cap : Nat} {bs : List Nat} (h : FB pC 1 49 base w (.slice (some ⟨g, 0, none⟩) n cap) bs) (j : Nat) (hj : j < bs.length) : w.cell? ⟨g, j, none⟩ = some (.pointer (some ⟨bs[j], 0, none⟩)) := by
  obtain ⟨hlen, ⟨e, h0⟩ | ⟨g', cap', cur, e, hg, hs, hcap, hm, hsz, htk⟩⟩ := h
  · cases e
  · injection e with e1 e2 e3
    injection e1 with e1
    injection e1 with e1 _ _
    subst e1 e3
    have hB : Box w g 49 cur := hs
    rw [hB.cellAtP]
    have h2 := flatP_get bs j
    rw [← htk, List.getElem?_take, if_pos (by omega), Array.getElem?_toList, List.getElem?_eq_getElem hj] at h2
    simpa using h2
theorem FB.rowBox {base : Nat} {w : World} {g n cap : Nat} {bs : List Nat} (h : FB pC 1 49 base w (.slice (some ⟨g, 0, none⟩) n cap) bs) : base ≤ g ∧ n = bs.length ∧ n ≤ cap ∧ cap ≤ 9223372036854775807 ∧ ∃ cur, Box w g 49 cur ∧ cur.size = cap ∧ cur.toList.take n = flat pC bs := by
  obtain ⟨hlen, ⟨e, h0⟩ | ⟨g', cap', cur, e, hg, hs, hcap, hm, hsz, htk⟩⟩ := h
  · cases e
  · injection e with e1 e2 e3
    injection e1 with e1
    injection e1 with e1 _ _
    subst e1 e3
    rw [Nat.mul_one] at hsz
    rw [Nat.mul_one, ← e2] at htk
    exact ⟨hg, e2, by omega, by unfold maxLen at hm; omega, cur, hs, hsz, htk⟩
theorem FB.ofRow {base : Nat} {w : World} {g cap : Nat} {bs : List Nat} {cur : Array Value} (hg : base ≤ g) (hB : Box w g 49 cur) (hsz : cur.size = cap) (hc : bs.length ≤ cap) (hm : cap ≤ 9223372036854775807) (ht : cur.toList.take bs.length = flat pC bs) : FB pC 1 49 base w (.slice (some ⟨g, 0, none⟩) bs.length cap) bs :=
  ⟨by rw [flat_len (c := 1) (fun _ => rfl)], .inr ⟨g, cap, cur, rfl, hg, hB, hc, by unfold maxLen; omega, by omega, by rw [Nat.mul_one]; exact ht⟩⟩
theorem pflat_one {bs : List Nat} : ∀ u ∈ flat pC bs, u.oneCell' = true := fun u hu => by
  simp only [flat, List.mem_flatten, List.mem_map] at hu
  obtain ⟨l, ⟨x, _, rfl⟩, hu⟩ := hu
  rw [List.mem_singleton.1 hu]
  rfl
/-- the tail is moved down -/
theorem appDel {base : Nat} {w : World} {g n cap : Nat} {bs : List Nat} (h : FB pC 1 49 base w (.slice (some ⟨g, 0, none⟩) n cap) bs) {i j : Nat} (hi : i < n) (hj : i + 1 = j) (a : Addr) (c : Nat) (ha : j < n → a = ⟨g, j, none⟩) (ty : TypeId) :
    ∃ w', (Builtin.append_ #[45, 45] ty #[.slice (some ⟨g, 0, none⟩) i cap, .slice (some a) (n - j) c]).run Tryz.prog w = .ok (.slice (some ⟨g, 0, none⟩) (n - 1) cap) w' ∧ FB pC 1 49 base w' (.slice (some ⟨g, 0, none⟩) (n - 1) cap) (bs.eraseIdx i) ∧ Only [g] w w' := by
  obtain ⟨i0, hi0, _, hz1, _⟩ := info_parts pinfo
  obtain ⟨hg, hn, hnc, hcm, cur, hB, hcs, htk⟩ := h.rowBox
  have hnews : ∀ k u, (flat pC (bs.drop j))[k]? = some u → w.cell? (a.add k) = some u := fun k u hu => by
    rw [flatP_get, List.getElem?_drop] at hu
    have hlt : j + k < bs.length := by
      by_cases hlt : j + k < bs.length
      · exact hlt
      · rw [List.getElem?_eq_none (by omega)] at hu; cases hu
    rw [List.getElem?_eq_getElem hlt] at hu
    simp at hu
    rw [ha (by omega)]
    have e2 : ((⟨g, j, none⟩ : Addr).add k) = ⟨g, j + k, none⟩ := by
      simp only [Addr.add]
      by_cases h0 : k = 0
      · subst h0; simp
      · rw [if_neg h0]
    rw [e2, h.rowCell _ hlt, ← hu]
  have hfl : (flat pC (bs.drop j)).length = n - j := by rw [flat_len (c := 1) (fun _ => rfl), List.length_drop]; omega
  have hr := run_append_room (P := Tryz.prog) w 45 ty 49 i0 Tryz.underlying45 hi0 g i cap cur hB a (n - j) c (flat pC (bs.drop j)) (by rw [hz1, hfl]; omega) hnews pflat_one (by omega) (by rw [hz1, hfl]; omega)
  rw [show i + (n - j) = n - 1 by omega] at hr
  refine ⟨_, hr, ?_, ⟨rfl, rfl, rfl, by simp [World.setRow], fun k _ hk => setRow_other w g k _ (fun e => hk (by simp [e]))⟩⟩
  have hln : n - 1 = (bs.eraseIdx i).length := by rw [List.length_eraseIdx, if_pos (by omega)]; omega
  rw [hln]
  refine FB.ofRow hg (show Box _ g 49 _ from setRow_heap w g cur _ 49 _ hB) ?_ (by omega) hcm ?_
  · simp only [List.size_toArray, List.length_append, List.length_take, List.length_drop, Array.length_toList, hz1, hfl]
    omega
  · have e1 : cur.toList.take i = flat pC (bs.take i) := by rw [flatP_take, ← htk, List.take_take, Nat.min_eq_left (by omega)]
    rw [hz1, Nat.mul_one, e1, List.toList_toArray, ← hln, List.eraseIdx_eq_take_drop_succ, hj, show flat pC (bs.take i ++ bs.drop j) = flat pC (bs.take i) ++ flat pC (bs.drop j) from by simp [flat]]
    have hlen : (flat pC (bs.take i) ++ flat pC (bs.drop j)).length = n - 1 := by rw [List.length_append, hfl, flat_len (c := 1) (fun _ => rfl), List.length_take]; omega
    rw [← hlen]
    exact List.take_left
/-- what lies behind is cleared -/
theorem clrDel {base : Nat} {w : World} {g n cap : Nat} {bs : List Nat} (h : FB pC 1 49 base w (.slice (some ⟨g, 0, none⟩) n cap) bs) (m c : Nat) (hm : n + m ≤ cap) (ty : TypeId) :
    ∃ w', (Builtin.clear_ #[45] ty #[.slice (some ⟨g, n, none⟩) m c]).run Tryz.prog w = .ok (.tuple #[]) w' ∧ FB pC 1 49 base w' (.slice (some ⟨g, 0, none⟩) n cap) bs ∧ Only [g] w w' := by
  obtain ⟨hg, hn, hnc, hcm, cur, hB, hcs, htk⟩ := h.rowBox
  obtain ⟨w', arr', hr, ho, hB', hs', hk⟩ := clearP (c := c) hB (o := n) (n := m) (by omega) ty
  refine ⟨w', hr, ?_, ho⟩
  subst hn
  refine FB.ofRow hg hB' (by omega) (by omega) hcm ?_
  rw [← htk]
  apply List.ext_getElem?
  intro k
  rw [List.getElem?_take, List.getElem?_take]
  by_cases h1 : k < bs.length
  · rw [if_pos h1, if_pos h1, Array.getElem?_toList, Array.getElem?_toList, hk k h1]
  · rw [if_neg h1, if_neg h1]
/-- slices of the row -/
theorem slThree (g n c i j : Nat) (hi : i < n) (hj : i + 1 = j) (hn : n ≤ c) (w : World) : (Instr.slice 45 (.slice (some ⟨g, 0, none⟩) n c) (some (.int .i64 (i : Int))) (some (.int .i64 (j : Int))) (some (.int .i64 (n : Int)))).run Tryz.prog w = .ok (.slice (some ⟨g, i, none⟩) 1 (n - i)) w := by
  have h1 : (i : Int) ≤ (j : Int) := by omega
  have h2 : (j : Int) ≤ (n : Int) := by omega
  have h3 : (n : Int) ≤ (c : Int) := by omega
  have h4 : n - i ≠ 0 := by omega
  have h5 : ¬ n ≤ i := by omega
  have h6 : ¬ n = i := by omega
  have h7 : j - i = 1 := by omega
  simp [go_sem, Tryz.underlying45, h1, h2, h3, h4, h5, h6, h7]
  try omega
theorem slTo (g n c i : Nat) (hi : i ≤ c) (w : World) : (Instr.slice 45 (.slice (some ⟨g, 0, none⟩) n c) none (some (.int .i64 (i : Int))) none).run Tryz.prog w = .ok (.slice (some ⟨g, 0, none⟩) i c) w := by
  have h1 : (i : Int) ≤ (c : Int) := by omega
  simp [go_sem, Tryz.underlying45, h1]
theorem slFrom (g n c j : Nat) (hj : j ≤ n) (hn : n ≤ c) : ∃ a : Addr, (j < n → a = ⟨g, j, none⟩) ∧ ∀ w : World, (Instr.slice 45 (.slice (some ⟨g, 0, none⟩) n c) (some (.int .i64 (j : Int))) none none).run Tryz.prog w = .ok (.slice (some a) (n - j) (c - j)) w := by
  have h1 : (j : Int) ≤ (n : Int) := by omega
  by_cases hc : j < c
  · refine ⟨⟨g, j, none⟩, fun _ => rfl, fun w => ?_⟩
    have h2 : c - j ≠ 0 := by omega
    have h3 : ¬ c ≤ j := by omega
    simp [go_sem, Tryz.underlying45, h1, h2, h3]
    try omega
  · refine ⟨⟨g, 0, none⟩, fun h => absurd h (by omega), fun w => ?_⟩
    have h2 : c - j = 0 := by omega
    have h3 : c ≤ j := by omega
    have h4 : c = j := by omega
    subst h4
    simp [go_sem, Tryz.underlying45, h1, h2, h3]
theorem slTail (g n c m : Nat) (hm : m < n) (hn : n ≤ c) (w : World) : (Instr.slice 45 (.slice (some ⟨g, 0, none⟩) m c) (some (.int .i64 (m : Int))) (some (.int .i64 (n : Int))) none).run Tryz.prog w = .ok (.slice (some ⟨g, m, none⟩) (n - m) (c - m)) w := by
  have h1 : (m : Int) ≤ (n : Int) := by omega
  have h2 : (n : Int) ≤ (c : Int) := by omega
  have h3 : c - m ≠ 0 := by omega
  have h4 : ¬ c ≤ m := by omega
  have h5 : ¬ c = m := by omega
  simp [go_sem, Tryz.underlying45, h1, h2, h3, h4, h5]
  try omega
end Go.Proofs.YtpmnepalchgcbaaGreatDoor.Msg

namespace Go.Proofs.YtpmnepalchgcbaaGreatDoor.Msg
open Go.ChangeShapes Go.WideShapes Go.ChangeAt Go.RowKit
set_option linter.unusedVariables false
set_option linter.unusedSimpArgs false

/-! slices.Delete of one session's place -/
theorem wpList_clrP {ops : Array Oper} {rest : List Oper} {o : Oper} {a : Act} {Q : Exit → Act → World → Prop} {w w' : World} {v v' : Value} (hgd : o.guard = none) (s : Operand) (t : TypeId)
    (ho : o.op = .call { callee := .builtin .clear, args := #[s], argTypes := #[t] }) (hr : (Builtin.clear_ #[t] o.type #[v]).run Tryz.prog w = .ok v' w') (hs : a.eval s = v) (h : wpList Tryz.prog ops Q rest (a.put o.dst v') w') :
    wpList Tryz.prog ops Q (o :: rest) a w := by
  refine wpList_plain hgd fun K hK => ?_
  unfold Oper.wp execOp
  simp only [ho, resolve, invoke, builtin, Sem.run_bind, Sem.run_pure, Result.andThen_ok, List.map_toArray, List.map_cons, List.map_nil, hs, hr]
  exact hK _ _ h
theorem YS {P : Program} {t : TypeId} {x v : Value} {lo hi mx : Option Value} (h : ∀ w : World, (Instr.slice t x lo hi mx).run P w = .ok v w) (w : World) : (do let a ← Instr.slice t x lo hi mx; pure (Next.value a) : Sem Next).run P w = .ok (.value v) w := by
  simp [h w]
set_option maxRecDepth 100000 in
set_option maxHeartbeats 4000000 in
theorem deleteP_any {base : Nat} {w : World} {g n cap : Nat} {bs : List Nat} (h : FB pC 1 49 base w (.slice (some ⟨g, 0, none⟩) n cap) bs) (hl : n ≤ 1000) {i : Nat} (hi : i < n) :
    Calls Tryz.prog 94 #[.slice (some ⟨g, 0, none⟩) n cap, .int .i64 (i : Int), .int .i64 ((i : Int) + 1)] w fun e w' => e = .returned (.slice (some ⟨g, 0, none⟩) (n - 1) cap) ∧ FB pC 1 49 base w' (.slice (some ⟨g, 0, none⟩) (n - 1) cap) (bs.eraseIdx i) ∧ Only [g] w w' := by
  have hnc := h.rowBox.2.2.1
  have hcm := h.rowBox.2.2.2.1
  obtain ⟨j, hj⟩ : ∃ j, i + 1 = j := ⟨_, rfl⟩
  have HJ := hide hj
  rw [show ((i : Int) + 1) = (j : Int) by omega]
  obtain ⟨m, hm⟩ : ∃ m, n - 1 = m := ⟨_, rfl⟩
  have HM := hide hm
  rw [hm]
  obtain ⟨a, ha, s3⟩ := slFrom g n cap j (by omega) hnc
  have hic : i ≤ cap := by omega
  have hjn : j ≤ n := by omega
  have hD : Below w.heap.size w w.drew := (Below.refl _ _).drew
  obtain ⟨w1, hr1, hF1, ho1⟩ := appDel (h.below hD) hi hj a (cap - j) ha 45
  rw [hm] at hr1 hF1
  obtain ⟨w2, hr2, hF2, ho2⟩ := clrDel hF1 (n - m) (cap - m) (by omega) 0
  have s1 := slThree g n cap i j hi hj hnc
  have s2 := slTo g n cap i (by omega)
  have s4 := slTail g n cap m (by omega) hnc
  have HFIN : Hid (FB pC 1 49 base w2 (.slice (some ⟨g, 0, none⟩) m cap) (bs.eraseIdx i) ∧ Only [g] w w2) := ⟨hF2, (Only.of_below hD).trans (ho1.trans ho2)⟩
  have hij : ((i : Int) == (j : Int)) = false := by simp; omega
  clear h hF1 ho1 hF2 ho2 hD hj hm ha
  go_enter Tryz.func94, Tryz.ntmps94
  go_wp2_with fail
  refine wp_region_two (fun U : World => True) 7 (by kernel_rfl) ?_
  refine wpTwo_take (i := 0) (some 20) (v := ?v0_1) rfl rfl (by kernel_rfl) (by kernel_rfl) (by kernel_rfl) (by kernel_rfl) (fun _ _ _ h => h) trivial (Or.inl ⟨by rfl, ?hy0_1⟩) ?rest0_1
  case hy0_1 => (intro w hSw; (try dsimp only at hSw); go_simp; try with_reducible rfl)
  try simp only [Act.put, List.setIfInBounds_toArray, List.set_cons_zero, List.set_cons_succ]
  refine wpTwo_take (i := 1) (some 21) (v := ?v1_1) rfl rfl (by kernel_rfl) (by kernel_rfl) (by kernel_rfl) (by kernel_rfl) (fun _ _ _ h => h) trivial (Or.inl ⟨by rfl, ?hy1_1⟩) ?rest1_1
  case hy1_1 => (intro w hSw; (try dsimp only at hSw); go_simp; try with_reducible rfl)
  try simp only [Act.put, List.setIfInBounds_toArray, List.set_cons_zero, List.set_cons_succ]
  refine wpTwo_take (i := 2) (some 22) (v := .slice (some ⟨g, 0, none⟩) i cap) rfl rfl (by kernel_rfl) (by kernel_rfl) (by kernel_rfl) (by kernel_rfl) (fun _ _ _ h => h) trivial (Or.inl ⟨by rfl, fun w hSw => YS s2 w⟩) ?_
  try simp only [Act.put, List.setIfInBounds_toArray, List.set_cons_zero, List.set_cons_succ]
  refine wpTwo_take (i := 3) (some 23) (v := ?v3_1) rfl rfl (by kernel_rfl) (by kernel_rfl) (by kernel_rfl) (by kernel_rfl) (fun _ _ _ h => h) trivial (Or.inl ⟨by rfl, ?hy3_1⟩) ?rest3_1
  case hy3_1 => (intro w hSw; (try dsimp only at hSw); go_simp; try with_reducible rfl)
  try simp only [Act.put, List.setIfInBounds_toArray, List.set_cons_zero, List.set_cons_succ]
  refine wpTwo_take (i := 4) (some 24) (v := ?v4_1) rfl rfl (by kernel_rfl) (by kernel_rfl) (by kernel_rfl) (by kernel_rfl) (fun _ _ _ h => h) trivial (Or.inl ⟨by rfl, ?hy4_1⟩) ?rest4_1
  case hy4_1 => (intro w hSw; (try dsimp only at hSw); go_simp; try with_reducible rfl)
  try simp only [Act.put, List.setIfInBounds_toArray, List.set_cons_zero, List.set_cons_succ]
  refine wpTwo_take (i := 5) (some 25) (v := .slice (some a) (n - j) (cap - j)) rfl rfl (by kernel_rfl) (by kernel_rfl) (by kernel_rfl) (by kernel_rfl) (fun _ _ _ h => h) trivial (Or.inl ⟨by rfl, fun w hSw => YS s3 w⟩) ?_
  try simp only [Act.put, List.setIfInBounds_toArray, List.set_cons_zero, List.set_cons_succ]
  refine wpTwo_one (j := 6) (by kernel_rfl) rfl (fun K2 hK => ?_)
  refine step_app rfl _ _ 45 rfl hr1 (by first | rfl | simp [Act.eval, Act.put]) (by first | rfl | simp [Act.eval, Act.put]) ?_
  refine hK.out _ _ (fun _ => trivial) ?_
  clear hK K2
  try simp only [Act.put, List.setIfInBounds_toArray, List.set_cons_zero, List.set_cons_succ]
  refine wpTwo_one (j := 7) (by kernel_rfl) rfl (fun K2 hK => ?_)
  go_simp
  refine hK.out _ _ (fun h => absurd h (by decide)) ?_
  clear hK K2
  refine wpTwo_done (by kernel_rfl) ?_ _
  go_wp2_with (first | (at_builtin; refine wpList_clrP rfl _ 45 rfl hr2 (by first | rfl | simp [Act.eval, Act.put]) ?_))
  go_ret
  exact ⟨rfl, HFIN.out⟩
end Go.Proofs.YtpmnepalchgcbaaGreatDoor.Msg
