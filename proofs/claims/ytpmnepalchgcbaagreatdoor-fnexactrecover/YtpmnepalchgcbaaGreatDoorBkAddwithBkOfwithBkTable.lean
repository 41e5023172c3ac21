import Derived.Test.YtpmnepalchgcbaaGreatDoorTblApplyPwithBkMapwithBkFns
import Derived.Deep.LoopGhost
import Derived.Deep.DeepCutAuto
namespace Go.Proofs.YtpmnepalchgcbaaGreatDoor.Msg
open Go.ChangeShapes Go.WideShapes Go.ChangeAt Go.RowKit
set_option linter.unusedVariables false
set_option linter.unusedSimpArgs false

/-! the book: the sessions' blocks in their order, and a map of them -/
def pC (b : Nat) : List Value := [.pointer (some ⟨b, 0, none⟩)]
def keyF (ps : List (Sess × Value)) (bs : List Nat) (c : Int) (t : ByteArray) : Option Nat := ((ps.zip bs).find? fun q => decide (q.1.1.client = c) && decide (q.1.1.tag = t)).map Prod.snd
theorem keyF_snoc {ps : List (Sess × Value)} {bs : List Nat} (hl : bs.length = ps.length) (p : Sess × Value) (b : Nat) (hn : keyF ps bs p.1.client p.1.tag = none) : keyF (ps ++ [p]) (bs ++ [b]) = fun j t => if j = p.1.client ∧ t = p.1.tag then some b else keyF ps bs j t := by
  funext j t
  unfold keyF at hn ⊢
  rw [List.zip_append (by omega), List.find?_append]
  by_cases h : j = p.1.client ∧ t = p.1.tag
  · rw [if_pos h]
    obtain ⟨rfl, rfl⟩ := h
    rw [Option.map_eq_none_iff] at hn
    rw [hn]
    simp
  · rw [if_neg h]
    have e : (List.find? (fun q : (Sess × Value) × Nat => decide (q.1.1.client = j) && decide (q.1.1.tag = t)) ([p].zip [b])) = none := by
      rw [List.find?_eq_none]
      intro x hx
      simp at hx
      subst hx
      simp
      intro e1 e2
      exact h ⟨e1.symm, e2.symm⟩
    rw [e, Option.or_none]
theorem pinfo : (Tryz.prog.info? 49).map (fun i => (i.zero, i.size, i.bytes)) = some (some (.pointer none), 1, 8) := by kernel_rfl
structure BK (base : Nat) (X : World) (K M : Nat) (ov : Value) (n : Nat) (ps : List (Sess × Value)) (bs : List Nat) : Prop where
  box : Box X K 48 #[ov, .map (some M)]
  row : FB pC 1 49 base X ov bs
  map : MapF X M n (keyF ps bs)
  len : bs.length = ps.length
  ses : ∀ i (h1 : i < ps.length) (h2 : i < bs.length), Box X bs[i] 51 (tsC ps[i]).toArray
  lob : ∀ b ∈ bs, base ≤ b
  nb : bs.Nodup
  els : ∀ p ∈ ps, SmS p.1 ∧ FB tC 1 9 base X p.2 p.1.rows
  nd : ((ps.map (·.2)).filterMap Value.ownBlock).Nodup
  lows : base ≤ K ∧ base ≤ M
def BIn (K M : Nat) (ov : Value) (ps : List (Sess × Value)) (bs : List Nat) (b : Nat) : Prop := b = K ∨ b = M ∨ ov.ownBlock = some b ∨ b ∈ bs ∨ ∃ p ∈ ps, p.2.ownBlock = some b
/-- nothing but what was the book's has turned, and what is the book's now was so, or is new -/
structure Ft (S : Nat → Prop) (w : World) (S' : Nat → Prop) (w' : World) : Prop where
  size : w.heap.size ≤ w'.heap.size
  out : ∀ d, d < w.heap.size → ¬ S d → w'.heap[d]? = w.heap[d]?
  grow : ∀ d, S' d → S d ∨ w.heap.size ≤ d
theorem Ft.below {S : Nat → Prop} {w w' : World} (h : Below w.heap.size w w') : Ft S w S w' := ⟨h.size, fun d hd _ => h.block d hd, fun _ hd => .inl hd⟩
theorem Ft.trans {S S1 S2 : Nat → Prop} {w w1 w2 : World} (h : Ft S w S1 w1) (k : Ft S1 w1 S2 w2) : Ft S w S2 w2 :=
  ⟨Nat.le_trans h.size k.size, fun d hd hn => (k.out d (Nat.lt_of_lt_of_le hd h.size) fun h1 => by
    rcases h.grow d h1 with h2 | h2
    · exact hn h2
    · omega).trans (h.out d hd hn), fun d hd => by
    rcases k.grow d hd with h1 | h1
    · exact h.grow d h1
    · exact .inr (Nat.le_trans h.size h1)⟩
theorem Ft.wide {S T S' : Nat → Prop} {w w' : World} (h : Ft T w S' w') (hS : ∀ d, T d → S d ∨ w.heap.size ≤ d) : Ft S w S' w' :=
  ⟨h.size, fun d hd hn => h.out d hd fun h1 => by
    rcases hS d h1 with h2 | h2
    · exact hn h2
    · omega, fun d hd => by
    rcases h.grow d hd with h1 | h1
    · exact hS d h1
    · exact .inr h1⟩
theorem Ft.set {S S' : Nat → Prop} {w w' : World} (h : Ft S w S' w') {a : Addr} (ha : S a.block ∨ w.heap.size ≤ a.block) (v : Value) : Ft S w S' (w'.setCell a v) :=
  ⟨by rw [Deep.nblk_setCell]; exact h.size, fun d hd hn => (Deep.blk_setCell_other _ a _ d fun e => by
    subst e
    rcases ha with h1 | h1
    · exact hn h1
    · omega).trans (h.out d hd hn), h.grow⟩
section
variable {base : Nat} {X X' : World} {K M : Nat} {ov : Value} {n : Nat} {ps : List (Sess × Value)} {bs : List Nat}
theorem BK.keep (h : BK base X K M ov n ps bs) (hb : ∀ b, BIn K M ov ps bs b → X'.heap[b]? = X.heap[b]?) : BK base X' K M ov n ps bs :=
  ⟨h.box.keep (hb K (.inl rfl)), h.row.keep fun b hb' => hb b (.inr (.inr (.inl (by simpa using hb')))), h.map.keep (hb M (.inr (.inl rfl))), h.len, fun i h1 h2 => (h.ses i h1 h2).keep (hb _ (.inr (.inr (.inr (.inl (List.getElem_mem h2)))))), h.lob, h.nb, fun p hp => ⟨(h.els p hp).1, (h.els p hp).2.keep fun b hb' => hb b (.inr (.inr (.inr (.inr ⟨p, hp, by simpa using hb'⟩))))⟩, h.nd, h.lows⟩
theorem BK.own (h : BK base X K M ov n ps bs) {b : Nat} (hb : BIn K M ov ps bs b) : base ≤ b ∧ b < X.heap.size := by
  rcases hb with rfl | rfl | hb | hb | ⟨p, hp, hb⟩
  · exact ⟨h.lows.1, h.box.lt⟩
  · exact ⟨h.lows.2, h.map.lt⟩
  · exact h.row.own b (by rw [hb]; simp)
  · obtain ⟨i, hi, rfl⟩ := List.mem_iff_getElem.1 hb
    exact ⟨h.lob _ hb, (h.ses i (by rw [← h.len]; exact hi) hi).lt⟩
  · exact (h.els p hp).2.own b (by rw [hb]; simp)
theorem BK.below (h : BK base X K M ov n ps bs) (hb : Below X.heap.size X X') : BK base X' K M ov n ps bs := h.keep fun b hi => hb.block b (h.own hi).2
/-- blocks by their types -/
theorem BK.rowBlk (h : BK base X K M ov n ps bs) {b : Nat} (hb : ov.ownBlock = some b) : ∃ cs, X.heap[b]? = some (.cells cs 49 (0, 0)) := h.row.blk hb
end
theorem blk_ne {X : World} {a b : Nat} {cs ds : Array Value} {t u : TypeId} (ha : X.heap[a]? = some (.cells cs t (0, 0))) (hb : X.heap[b]? = some (.cells ds u (0, 0))) (h : t ≠ u) : a ≠ b := fun e => by
  rw [e, hb] at ha
  injection ha with ha
  injection ha with _ ha _
  exact h ha.symm
theorem MapF.neB {w : World} {M n b : Nat} {f : Int → ByteArray → Option Nat} {t : TypeId} {cs : Array Value} (h : MapF w M n f) (hb : w.heap[b]? = some (.cells cs t (0, 0))) : b ≠ M := h.ne (show Box w b t cs from hb)
set_option maxRecDepth 100000 in
set_option maxHeartbeats 16000000 in
theorem add_any {base : Nat} {w : World} {K M : Nat} {ov : Value} {n : Nat} {ps : List (Sess × Value)} {bs : List Nat} (h : BK base w K M ov n ps bs) (s : Sess) (ar : Option Addr) (cr b : Nat) (hB : Box w b 51 (tsC (s, .slice ar s.rows.length cr)).toArray) (hbb : base ≤ b) (hnb : b ∉ bs) (hs : SmS s) (hF : FB tC 1 9 base w (.slice ar s.rows.length cr) s.rows)
    (hd : ∀ d, (Value.slice ar s.rows.length cr).ownBlock = some d → ∀ q ∈ ps, q.2.ownBlock ≠ some d) (hk : keyF ps bs s.client s.tag = none) (hcw : (Lit.int .i64 s.client).wf = true) (hbase : base ≤ w.heap.size) (hn : n ≤ 100000) (hl : bs.length ≤ 1000) :
    Calls Tryz.prog 35 #[.pointer (some ⟨K, 0, none⟩), .pointer (some ⟨b, 0, none⟩)] w fun e w' => e = .returned (.tuple #[]) ∧ (∃ ov', BK base w' K M ov' (n + 1) (ps ++ [(s, .slice ar s.rows.length cr)]) (bs ++ [b]) ∧ Ft (fun d => BIn K M ov ps bs d ∨ d = b ∨ (Value.slice ar s.rows.length cr).ownBlock = some d) w (BIn K M ov' (ps ++ [(s, .slice ar s.rows.length cr)]) (bs ++ [b])) w') ∧ Below base w w' := by
  have HH := hide h
  have HKN := hide hk
  have HHB := hide hB
  have HHF := hide hF
  have HHD := hide hd
  obtain ⟨ao, co, rfl, _⟩ := h.row.form
  obtain ⟨m, hm⟩ : ∃ m, bs.length = m := ⟨_, rfl⟩
  have HM := hide hm
  rw [hm] at HH hl
  obtain ⟨a8, c8, w1, hr8', hF8, ho8, hv8⟩ := row_more (C := pC) (c := 1) (bytes := 8) (e := 49) Tryz.underlying45 pinfo rfl (by decide) HH.out.row b rfl (fun z hz => by rw [List.mem_singleton.1 hz]; rfl) hbase hm (by omega) (by decide)
  have hr8 : (Builtin.append_ #[45, 45] 45 #[.slice ao m co, .slice (some ⟨w.heap.size, 0, none⟩) 1 1]).run Tryz.prog (w.alloc (.cells #[.pointer (some ⟨b, 0, none⟩)] 49)) = .ok (.slice a8 (m + 1) c8) w1 := hr8'
  -- what is not of the row's type stays
  have HT1 : Hid (∀ (d : Nat) (cs : Array Value) (t : TypeId), w.heap[d]? = some (Obj.cells cs t (0, 0)) → t ≠ 49 → w1.heap[d]? = w.heap[d]?) := fun d cs t hdd ht => ho8.block d (by rcases Nat.lt_or_ge d w.heap.size with h' | h'; exact h'; rw [Array.getElem?_eq_none h'] at hdd; cases hdd) fun hmm => by
    obtain ⟨cs2, e2⟩ := HH.out.rowBlk (b := d) (by simpa using hmm)
    exact blk_ne hdd e2 ht rfl
  have HM1 : Hid (w1.heap[M]? = w.heap[M]?) := ho8.block M HH.out.map.lt fun hmm => by
    obtain ⟨cs2, e2⟩ := HH.out.rowBlk (b := M) (by simpa using hmm)
    exact HH.out.map.neB e2 rfl
  have hK1 : Box w1 K 48 #[.slice ao m co, .map (some M)] := HH.out.box.keep (HT1.out K _ _ HH.out.box (by decide))
  obtain ⟨Y, hY⟩ : ∃ x, w1.setCell ⟨K, 0, none⟩ (.slice a8 (m + 1) c8) = x := ⟨_, rfl⟩
  have hKY : Box Y K 48 #[.slice a8 (m + 1) c8, .map (some M)] := by rw [← hY]; have := hK1.set 0 (.slice a8 (m + 1) c8); simpa using this
  have HTY : Hid (∀ d, d ≠ K → Y.heap[d]? = w1.heap[d]?) := fun d hdd => by rw [← hY]; exact Deep.blk_setCell_other _ ⟨K, 0, none⟩ _ d (by dsimp only; exact hdd)
  have HKN2 : Hid (∀ (d : Nat) (cs : Array Value) (t : TypeId), w.heap[d]? = some (Obj.cells cs t (0, 0)) → t ≠ 48 → d ≠ K) := fun d cs t hdd ht => blk_ne hdd HH.out.box ht
  have HSY : Hid (Y.heap.size = w1.heap.size) := by rw [← hY]; exact Deep.nblk_setCell _ _ _
  have HMY : Hid (Y.heap[M]? = w.heap[M]?) := (HTY.out M (fun e => HH.out.map.ne HH.out.box e.symm)).trans HM1.out
  have HFY : Hid (FB pC 1 49 base Y (.slice a8 (m + 1) c8) (bs ++ [b])) := hF8.keep fun d hdd => HTY.out d (by
    obtain ⟨cs2, e2⟩ := hF8.blk (b := d) (by simpa using hdd)
    exact blk_ne e2 hK1 (by decide))
  have HBL1 : Hid (Below base w Y) := by
    have h1 : Below base w w1 := (Below.refl base w).trans (ho8.below hbase fun d hdd => (HH.out.row.own d hdd).1)
    rw [← hY]
    exact h1.setCell (p := ⟨K, 0, none⟩) HH.out.lows.1 _
  have HBY : Hid (Box Y b 51 (tsC (s, .slice ar s.rows.length cr)).toArray) := HHB.out.keep ((HTY.out b (HKN2.out b _ _ HHB.out (by decide))).trans (HT1.out b _ _ HHB.out (by decide)))
  have HKY := hide hKY
  have k0 : w.cell? ⟨K, 0, none⟩ = some (.slice ao m co) := HH.out.box.cell 0 (by simp)
  have k1 : w1.cell? ⟨K, 0, none⟩ = some (.slice ao m co) := hK1.cell 0 (by simp)
  have kf : w1.frozen? ⟨K, 0, none⟩ = false := hK1.frozen 0
  have kl : K < w1.heap.size := hK1.lt
  have HS1 : Hid (w.heap.size ≤ w1.heap.size) := ho8.size
  have HYE := hide hY
  have HO8 := hide ho8
  have HV8 := hide hv8
  clear h hB hF hd hk hm hr8' hF8 ho8 hv8 hK1 hKY hY
  go_enter Tryz.func35, Tryz.ntmps35
  go_upto_region 1 with (first | (at_builtin; refine wpList_app rfl _ _ 45 rfl hr8 (by first | rfl | simp [Act.eval, Act.put]) (by first | rfl | simp [Act.eval, Act.put]) ?_))
  (try rw [HYE.out])
  clear k0 k1 kf kl hr8
  obtain ⟨client, tag, query, page, state, rows, cursor⟩ := s
  dsimp only at HKN hcw
  obtain ⟨nr, hnr⟩ : ∃ q, rows.length = q := ⟨_, rfl⟩
  have HNR := hide hnr
  have KS : Hid (∀ U, Below Y.heap.size Y U → (fun U : World => U.cell? ⟨K, 1, none⟩ = some (.map (some M)) ∧ U.cell? ⟨b, 0, none⟩ = some (.int .i64 client) ∧ U.cell? ⟨b, 1, none⟩ = some (.string tag) ∧ U.cell? ⟨b, 2, none⟩ = some (.string query) ∧ U.cell? ⟨b, 3, none⟩ = some (.int .i64 page) ∧ U.cell? ⟨b, 4, none⟩ = some (.int .i64 state) ∧ U.cell? ⟨b, 5, none⟩ = some (.slice ar nr cr) ∧ U.cell? ⟨b, 6, none⟩ = some (.int .i64 cursor)) U) := fun U hU => by
    have o1 := HKY.out.below hU
    have o2 := HBY.out.below hU
    dsimp only at o2
    rw [HNR.out] at o2
    exact ⟨o1.cell 1 (by simp), o2.cell 0 (by simp [tsC]), o2.cell 1 (by simp [tsC]), o2.cell 2 (by simp [tsC]), o2.cell 3 (by simp [tsC]), o2.cell 4 (by simp [tsC]), o2.cell 5 (by simp [tsC]), o2.cell 6 (by simp [tsC])⟩
  obtain ⟨D, hDe⟩ : ∃ D, Y.drew = D := ⟨_, rfl⟩
  have hD : Below Y.heap.size Y D := by rw [← hDe]; exact (Below.refl _ _).drew
  have hSd : (fun U : World => U.cell? ⟨K, 1, none⟩ = some (.map (some M)) ∧ U.cell? ⟨b, 0, none⟩ = some (.int .i64 client) ∧ U.cell? ⟨b, 1, none⟩ = some (.string tag) ∧ U.cell? ⟨b, 2, none⟩ = some (.string query) ∧ U.cell? ⟨b, 3, none⟩ = some (.int .i64 page) ∧ U.cell? ⟨b, 4, none⟩ = some (.int .i64 state) ∧ U.cell? ⟨b, 5, none⟩ = some (.slice ar nr cr) ∧ U.cell? ⟨b, 6, none⟩ = some (.int .i64 cursor)) D := KS.out D hD
  have HKEY := hide (skey_any ⟨client, tag, query, page, state, rows, cursor⟩ ar nr cr D)
  unfold sessV keyV at HKEY
  dsimp only at HKEY
  have HMF : Hid (∀ U, Below Y.heap.size Y U → MapF U M n (keyF ps bs)) := fun U hU => HH.out.map.keep ((hU.block M (by have := HH.out.map.lt; have := HS1.out; have := HSY.out; omega)).trans HMY.out)
  refine wp_region_two (fun U : World => U.cell? ⟨K, 1, none⟩ = some (.map (some M)) ∧ U.cell? ⟨b, 0, none⟩ = some (.int .i64 client) ∧ U.cell? ⟨b, 1, none⟩ = some (.string tag) ∧ U.cell? ⟨b, 2, none⟩ = some (.string query) ∧ U.cell? ⟨b, 3, none⟩ = some (.int .i64 page) ∧ U.cell? ⟨b, 4, none⟩ = some (.int .i64 state) ∧ U.cell? ⟨b, 5, none⟩ = some (.slice ar nr cr) ∧ U.cell? ⟨b, 6, none⟩ = some (.int .i64 cursor)) 9 (by kernel_rfl) ?_
  rw [hDe]
  clear hDe
  refine wpTwo_take (i := 0) (some 14) (v := ?v0_1) rfl rfl (by kernel_rfl) (by kernel_rfl) (by kernel_rfl) (by kernel_rfl) (fun _ _ _ h => h) hSd (Or.inl ⟨by rfl, ?hy0_1⟩) ?rest0_1
  case hy0_1 => (intro w hSw; (try dsimp only at hSw); go_simp; try with_reducible rfl)
  try simp only [Act.put, List.setIfInBounds_toArray, List.set_cons_zero, List.set_cons_succ]
  refine wpTwo_take (i := 1) (some 15) (v := ?v1_1) rfl rfl (by kernel_rfl) (by kernel_rfl) (by kernel_rfl) (by kernel_rfl) (fun _ _ _ h => h) hSd (Or.inl ⟨by rfl, ?hy1_1⟩) ?rest1_1
  case hy1_1 => (intro w hSw; (try dsimp only at hSw); go_simp; try with_reducible rfl)
  try simp only [Act.put, List.setIfInBounds_toArray, List.set_cons_zero, List.set_cons_succ]
  refine wpTwo_take (i := 2) (some 16) (v := ?v2_1) rfl rfl (by kernel_rfl) (by kernel_rfl) (by kernel_rfl) (by kernel_rfl) (fun _ _ _ h => h) hSd (Or.inl ⟨by rfl, ?hy2_1⟩) ?rest2_1
  case hy2_1 => (intro w hSw; (try dsimp only at hSw); go_simp; try with_reducible rfl)
  try simp only [Act.put, List.setIfInBounds_toArray, List.set_cons_zero, List.set_cons_succ]
  refine wpTwo_take (i := 3) (some 17) (v := ?v3_1) rfl rfl (by kernel_rfl) (by kernel_rfl) (by kernel_rfl) (by kernel_rfl) (fun _ _ _ h => h) hSd (Or.inl ⟨by rfl, ?hy3_1⟩) ?rest3_1
  case hy3_1 => (intro w hSw; (try dsimp only at hSw); go_simp; try with_reducible rfl)
  try simp only [Act.put, List.setIfInBounds_toArray, List.set_cons_zero, List.set_cons_succ]
  refine wpTwo_take (i := 4) (some 18) (v := ?v4_1) rfl rfl (by kernel_rfl) (by kernel_rfl) (by kernel_rfl) (by kernel_rfl) (fun _ _ _ h => h) hSd (Or.inl ⟨by rfl, ?hy4_1⟩) ?rest4_1
  case hy4_1 => (intro w hSw; (try dsimp only at hSw); go_simp; try with_reducible rfl)
  try simp only [Act.put, List.setIfInBounds_toArray, List.set_cons_zero, List.set_cons_succ]
  refine wpTwo_take (i := 5) (some 19) (v := ?v5_1) rfl rfl (by kernel_rfl) (by kernel_rfl) (by kernel_rfl) (by kernel_rfl) (fun _ _ _ h => h) hSd (Or.inl ⟨by rfl, ?hy5_1⟩) ?rest5_1
  case hy5_1 => (intro w hSw; (try dsimp only at hSw); go_simp; try with_reducible rfl)
  try simp only [Act.put, List.setIfInBounds_toArray, List.set_cons_zero, List.set_cons_succ]
  refine wpTwo_take (i := 6) (some 20) (v := ?v6_1) rfl rfl (by kernel_rfl) (by kernel_rfl) (by kernel_rfl) (by kernel_rfl) (fun _ _ _ h => h) hSd (Or.inl ⟨by rfl, ?hy6_1⟩) ?rest6_1
  case hy6_1 => (intro w hSw; (try dsimp only at hSw); go_simp; try with_reducible rfl)
  try simp only [Act.put, List.setIfInBounds_toArray, List.set_cons_zero, List.set_cons_succ]
  refine wpTwo_take (i := 8) (some 22) (v := ?v8_1) rfl rfl (by kernel_rfl) (by kernel_rfl) (by kernel_rfl) (by kernel_rfl) (fun _ _ _ h => h) hSd (Or.inl ⟨by rfl, ?hy8_1⟩) ?rest8_1
  case hy8_1 => (intro w hSw; (try dsimp only at hSw); go_simp; try with_reducible rfl)
  try simp only [Act.put, List.setIfInBounds_toArray, List.set_cons_zero, List.set_cons_succ]
  refine wpTwo_one (j := 7) (by kernel_rfl) rfl (fun K2 hK => ?_)
  go_simp
  refine HKEY.out.mono ?_
  rintro e U ⟨rfl, hbU⟩
  dsimp only
  have hUY : Below Y.heap.size Y U := bjoin hbU hD
  refine hK.out _ _ (fun _ => KS.out _ hUY) ?_
  clear hK K2
  try simp only [Act.put, List.setIfInBounds_toArray, List.set_cons_zero, List.set_cons_succ]
  obtain ⟨w9, hr9, hm9, ho9⟩ := (HMF.out U hUY).puts (by omega) client tag b hcw hs.1
  have hmU := HMF.out U hUY
  refine wpTwo_one (j := 9) (by kernel_rfl) rfl (fun K2 hK => ?_)
  go_simp
  refine hK.out _ _ (fun h => absurd h (by decide)) ?_
  clear hK K2
  refine wpTwo_done (by kernel_rfl) ?_ _
  have HT9 : Hid (∀ (d : Nat) (cs : Array Value) (t : TypeId), w.heap[d]? = some (Obj.cells cs t (0, 0)) → t ≠ 49 → t ≠ 48 → w9.heap[d]? = w.heap[d]?) := fun d cs t hdd h1 h2 => by
    have hdl : d < w.heap.size := by rcases Nat.lt_or_ge d w.heap.size with h' | h'; exact h'; rw [Array.getElem?_eq_none h'] at hdd; cases hdd
    have e1 : Y.heap[d]? = w.heap[d]? := (HTY.out d (HKN2.out d _ _ hdd h2)).trans (HT1.out d _ _ hdd h1)
    have hdY : d < Y.heap.size := by have := HS1.out; have := HSY.out; omega
    have e2 : U.heap[d]? = w.heap[d]? := (hUY.block d hdY).trans e1
    rw [ho9.block d (Nat.lt_of_lt_of_le hdY hUY.size) (by simp; exact hmU.neB (by rw [e2]; exact hdd)), e2]
  have HFIN : Hid ((∃ ov', BK base w9 K M ov' (n + 1) (ps ++ [(⟨client, tag, query, page, state, rows, cursor⟩, .slice ar rows.length cr)]) (bs ++ [b]) ∧ Ft (fun d => BIn K M (.slice ao bs.length co) ps bs d ∨ d = b ∨ (Value.slice ar rows.length cr).ownBlock = some d) w (BIn K M ov' (ps ++ [(⟨client, tag, query, page, state, rows, cursor⟩, .slice ar rows.length cr)]) (bs ++ [b])) w9) ∧ Below base w w9) := by
    have hbl : Below base w w9 := by
      have h1 : Below base w U := HBL1.out.trans (hUY.mono (by have := HBL1.out.size; omega))
      exact h1.trans (ho9.below (by have := h1.size; omega) fun d hdd => by rw [List.mem_singleton.1 hdd]; exact HH.out.lows.2)
    have hKU := HKY.out.below hUY
    have hFU := HFY.out.below hUY
    have hft : Ft (fun d => BIn K M (.slice ao bs.length co) ps bs d ∨ d = b ∨ (Value.slice ar rows.length cr).ownBlock = some d) w (BIn K M (.slice a8 (m + 1) c8) (ps ++ [(⟨client, tag, query, page, state, rows, cursor⟩, .slice ar rows.length cr)]) (bs ++ [b])) w9 := by
      refine ⟨hbl.size, fun d hd hn => ?_, fun d hd => ?_⟩
      · have e0 : w1.heap[d]? = w.heap[d]? := HO8.out.block d hd fun hm => hn (.inl (.inr (.inr (.inl (by rw [HM.out]; exact Option.mem_toList.1 hm)))))
        have e1 : Y.heap[d]? = w.heap[d]? := (HTY.out d fun e => hn (.inl (.inl e))).trans e0
        have hdY : d < Y.heap.size := by have := HS1.out; have := HSY.out; omega
        rw [ho9.block d (Nat.lt_of_lt_of_le hdY hUY.size) (by simp; exact fun e => hn (.inl (.inr (.inl e)))), hUY.block d hdY, e1]
      · rcases hd with hd | hd | hd | hd | ⟨p, hp, hd⟩
        · exact .inl (.inl (.inl hd))
        · exact .inl (.inl (.inr (.inl hd)))
        · rcases HV8.out d hd with h1 | h1
          · exact .inl (.inl (.inr (.inr (.inl (by rw [HM.out]; exact h1)))))
          · exact .inr h1
        · rcases List.mem_append.1 hd with hd | hd
          · exact .inl (.inl (.inr (.inr (.inr (.inl hd)))))
          · exact .inl (.inr (.inl (List.mem_singleton.1 hd)))
        · rcases List.mem_append.1 hp with hp | hp
          · exact .inl (.inl (.inr (.inr (.inr (.inr ⟨p, hp, hd⟩)))))
          · rw [List.mem_singleton.1 hp] at hd
            exact .inl (.inr (.inr hd))
    refine ⟨⟨.slice a8 (m + 1) c8, ?_, hft⟩, hbl⟩
    refine ⟨hKU.only ho9 (by simp; exact hmU.ne hKU), hFU.only ho9 (fun d hdd hmm => ?_), ?_, by rw [List.length_append, List.length_append, HH.out.len]; rfl, fun i h1 h2 => ?_, fun d hdd => ?_, ?_, fun p hp => ?_, nd_snoc HH.out.nd HHD.out, HH.out.lows⟩
    · obtain ⟨cs2, e2⟩ := hFU.blk (b := d) (by simpa using hdd)
      exact hmU.neB e2 (List.mem_singleton.1 hmm)
    · rw [keyF_snoc HH.out.len _ b HKN.out]
      exact hm9
    · by_cases hi : i < ps.length
      · have hi2 : i < bs.length := by rw [HH.out.len]; exact hi
        rw [List.getElem_append_left hi2, List.getElem_append_left hi]
        have hb0 := HH.out.ses i hi hi2
        exact hb0.keep (HT9.out _ _ _ hb0 (by decide) (by decide))
      · have e1 : i = ps.length := by rw [List.length_append, List.length_singleton] at h1; omega
        subst e1
        rw [List.getElem_append_right (by rw [HH.out.len]; exact Nat.le_refl _), List.getElem_append_right (Nat.le_refl _)]
        simp only [HH.out.len, Nat.sub_self, List.getElem_cons_zero]
        exact HHB.out.keep (HT9.out _ _ _ HHB.out (by decide) (by decide))
    · rcases List.mem_append.1 hdd with hdd | hdd
      · exact HH.out.lob d hdd
      · rw [List.mem_singleton.1 hdd]; exact hbb
    · refine List.nodup_append.2 ⟨HH.out.nb, by simp, fun x hx y hy e => ?_⟩
      rw [List.mem_singleton.1 hy] at e
      exact hnb (e ▸ hx)
    · rcases List.mem_append.1 hp with hp | hp
      · refine ⟨(HH.out.els p hp).1, (HH.out.els p hp).2.keep fun d hdd => ?_⟩
        obtain ⟨cs2, e2⟩ := (HH.out.els p hp).2.blk (b := d) (by simpa using hdd)
        exact HT9.out d _ _ e2 (by decide) (by decide)
      · rw [List.mem_singleton.1 hp]
        refine ⟨hs, HHF.out.keep fun d hdd => ?_⟩
        obtain ⟨cs2, e2⟩ := HHF.out.blk (b := d) (by simpa using hdd)
        exact HT9.out d _ _ e2 (by decide) (by decide)
  clear hSd hD hr9 hm9 ho9 hmU hUY hbU
  have hres : ∀ (tmps : Array Value) (W : World), (results Tryz.f35 tmps).run Tryz.prog W = .ok (.tuple #[]) W := fun tmps W => by simp [results, Tryz.results35, go_sem]
  first
  | exact bodyPost_end (hres _ _) rfl ⟨rfl, HFIN.out.1, HFIN.out.2⟩
  | (go_wp2_with fail; exact bodyPost_end (hres _ _) rfl ⟨rfl, HFIN.out.1, HFIN.out.2⟩)
end Go.Proofs.YtpmnepalchgcbaaGreatDoor.Msg

namespace Go.Proofs.YtpmnepalchgcbaaGreatDoor.Msg
open Go.ChangeShapes Go.WideShapes Go.ChangeAt Go.RowKit
set_option linter.unusedVariables false
set_option linter.unusedSimpArgs false

/-! bookOf -/
theorem keyF_none {ps : List (Sess × Value)} {bs : List Nat} (hl : bs.length = ps.length) {c : Int} {t : ByteArray} (h : keyF ps bs c t = none) : ∀ p ∈ ps, ¬ (p.1.client = c ∧ p.1.tag = t) := fun p hp ⟨e1, e2⟩ => by
  unfold keyF at h
  rw [Option.map_eq_none_iff, List.find?_eq_none] at h
  obtain ⟨i, hi, rfl⟩ := List.mem_iff_getElem.1 hp
  have hm : (ps[i], bs[i]'(by omega)) ∈ ps.zip bs := by
    rw [List.mem_iff_getElem]
    exact ⟨i, by rw [List.length_zip]; omega, by rw [List.getElem_zip]⟩
  have := h _ hm
  simp [e1, e2] at this
theorem keyF_some {ps : List (Sess × Value)} {bs : List Nat} {c : Int} {t : ByteArray} {b : Nat} (h : keyF ps bs c t = some b) : ∃ p ∈ ps, p.1.client = c ∧ p.1.tag = t := by
  unfold keyF at h
  rw [Option.map_eq_some_iff] at h
  obtain ⟨q, hq, _⟩ := h
  have h1 := List.find?_some hq
  have h2 := List.mem_of_find?_eq_some hq
  simp at h1
  exact ⟨q.1, (List.of_mem_zip h2).1, h1⟩
theorem same_iff (x y : Sess) : sameB x y = true ↔ y.client = x.client ∧ y.tag = x.tag := by
  unfold sameB
  simp only [Bool.and_eq_true, decide_eq_true_eq, beq_iff_eq]
  constructor
  · rintro ⟨h1, h2⟩
    refine ⟨h1.symm, ?_⟩
    rw [ByteArray.toList_eq, ByteArray.toList_eq] at h2
    cases hx : x.tag
    cases hy : y.tag
    rw [hx, hy] at h2
    simp at h2
    rw [h2]
  · rintro ⟨h1, h2⟩
    exact ⟨h1.symm, by rw [h2]⟩
def BkPost (w : World) (xs : List Sess) (e : Ending) (w' : World) : Prop :=
  (if tblB xs = true then ∃ K M ov n ps bs, e = .returned (.pointer (some ⟨K, 0, none⟩)) ∧ BK (w.heap.size + 1) w' K M ov n ps bs ∧ ps.map Prod.fst = xs ∧ n ≤ 16 else e = .returned (.pointer none)) ∧ Below w.heap.size w w'
theorem BkPost.no {w w' : World} {xs : List Sess} (h : tblB xs = false) (hb : Below w.heap.size w w') : BkPost w xs (.returned (.pointer none)) w' := ⟨by rw [h, if_neg (by decide)], hb⟩
theorem client_wf {s : Sess} (h : sessB s = true) : (Lit.int .i64 s.client).wf = true := by
  unfold sessB clientB at h
  simp only [Bool.and_eq_true, decide_eq_true_eq] at h
  obtain ⟨⟨⟨h1, h2⟩, _⟩, _⟩ := h
  simp [Lit.wf, IntKind.min, IntKind.max, IntKind.signed, IntKind.bits]
  omega
set_option maxRecDepth 100000 in
set_option maxHeartbeats 16000000 in
theorem bookOf_any (xs : List Sess) (v : Value) (w : World) {lo : Nat} (hv : SesssAt lo w v xs) :
    Calls Tryz.prog 13 #[.agg #[v]] w (BkPost w xs) := by
  have HV := hide hv
  obtain ⟨a, cap, rfl, _⟩ := At.form hv
  obtain ⟨n, hnn⟩ : ∃ n, xs.length = n := ⟨_, rfl⟩
  have HN := hide hnn
  rw [hnn]
  obtain ⟨x1, hx1⟩ : ∃ x, w.alloc (Obj.cells #[.slice a n cap] 24) = x := ⟨_, rfl⟩
  have b1 : Below w.heap.size w x1 := by rw [← hx1]; exact (Below.refl _ _).alloc (Nat.le_refl _) _
  have s1 : x1.heap.size = w.heap.size + 1 := by rw [← hx1]; simp
  have HO1 : Hid (Box x1 w.heap.size 24 #[.slice a n cap]) := by rw [← hx1]; exact Box.new _ _ _
  have HB1 := hide b1
  have HS1 := hide s1
  have HX1 := hide hx1
  have c0 : x1.cell? ⟨w.heap.size, 0, none⟩ = some (.slice a n cap) := HO1.out.cell 0 (by simp)
  have hnl : n ≤ 9223372036854775807 := by rw [← hnn]; exact hv.1
  clear hv hnn hx1 b1 s1
  by_cases hbig : (n : Int) > 16
  · have HX := hide (BkPost.no (w' := x1) (show tblB xs = false by unfold tblB; rw [decide_eq_false (p := xs.length ≤ 16) (by rw [HN.out]; omega)]; rfl) HB1.out)
    go_enter Tryz.func13, Tryz.ntmps13
    go_upto_region 1 with fail
    (try rw [HX1.out])
    go_wp2_with fail
    go_ret
    exact HX.out
  have hn16 : n ≤ 16 := by omega
  obtain ⟨M, hM⟩ : ∃ M, x1.heap.size = M := ⟨_, rfl⟩
  obtain ⟨K, hK⟩ : ∃ K, x1.heap.size + 1 = K := ⟨_, rfl⟩
  obtain ⟨x3, hx3⟩ : ∃ x, (x1.alloc (.map #[] 0)).alloc (Obj.cells #[.slice none 0 0, .map (some x1.heap.size)] 48) = x := ⟨_, rfl⟩
  have HBK0 : Hid (BK (w.heap.size + 1) x3 K M (.slice none 0 0) 0 [] []) := by
    have hs := HS1.out
    refine ⟨?_, FB.nil _ _ _ _ _, ?_, rfl, fun i h => absurd h (by simp), by simp, by simp, by simp, by simp, by omega, by omega⟩
    · rw [← hx3, ← hK, ← hM]
      have := Box.new (x1.alloc (.map #[] 0)) 48 #[.slice none 0 0, .map (some x1.heap.size)]
      rw [Deep.nblk_alloc] at this
      exact this
    · have e0 : keyF [] [] = fun _ _ => none := by funext c t; simp [keyF]
      rw [e0, ← hM, ← hx3]
      exact (MapF.new x1).keep (((Below.refl (x1.alloc (.map #[] 0)).heap.size (x1.alloc (.map #[] 0))).alloc (Nat.le_refl _) _).block x1.heap.size (by simp))
  have HB3 : Hid (Below x1.heap.size x1 x3) := by
    rw [← hx3]
    have h1 := (Below.refl x1.heap.size x1).alloc (Nat.le_refl _) (.map #[] 0)
    exact h1.alloc h1.size _
  have HX3 := hide hx3
  have HMM := hide hM
  have HKK := hide hK
  clear hx3 hM hK
  go_enter Tryz.func13, Tryz.ntmps13
  go_upto_region 1 with fail
  (try rw [HX1.out])
  have hmm := @run_makeMap Tryz.prog
  go_upto_region 4 with fail
  clear hmm
  (try rw [HX3.out])
  (try rw [HKK.out])
  have d0 : x3.cell? ⟨w.heap.size, 0, none⟩ = some (.slice a n cap) := (HO1.out.below HB3.out).cell 0 (by simp)
  clear c0
  go_wp2_with fail
  go_loopg [16] n (fun q i wr => ∃ (k nm : Nat) (ov : Value) (ps : List (Sess × Value)) (bs : List Nat), k ≤ n ∧ q = n - k ∧ i = .int .i64 (k : Int) ∧ BK (w.heap.size + 1) wr K M ov nm ps bs ∧ ps.map Prod.fst = xs.take k ∧ nm ≤ k ∧ (∀ j (hj : j < xs.length), j < k → placeOk xs j hj) ∧ Below (w.heap.size + 1) x1 wr)
  case atStart => exact ⟨0, 0, _, [], [], Nat.zero_le _, rfl, rfl, HBK0.out, by simp, Nat.le_refl _, fun j _ h => absurd h (by omega), by have := HB3.out; rw [HS1.out] at this; exact this⟩
  case round =>
    obtain ⟨k, nm, ov, ps, bs, hk, rfl, rfl, hBK, hmap, hnm, hpl, hbl⟩ := hrel
    obtain ⟨Y, rfl⟩ : ∃ x, x = wr := ⟨_, rfl⟩
    have HBK := hide hBK
    have HMAP := hide hmap
    have HPL := hide hpl
    have HBL := hide hbl
    have HBW : Hid (Below w.heap.size w Y) := HB1.out.trans (hbl.mono (by omega))
    have HLN : Hid (ps.length = k) := by rw [← List.length_map (f := Prod.fst), hmap, List.length_take, HN.out]; show _ = _; omega
    have HNM := hide hnm
    clear hBK hmap hpl hbl hnm d0
    by_cases hlt : k < n
    · have hki : (k : Int) < (n : Int) := by omega
      have hk0 : (0 : Int) ≤ (k : Int) := by omega
      have hkl : k < xs.length := by rw [HN.out]; exact hlt
      obtain ⟨a', cap', ea, hel⟩ := At.form HV.out
      injection ea with ea1 eaN ea3
      clear eaN
      subst ea1 ea3
      obtain ⟨bb, off, rfl, _, hbw, g⟩ := hel k hkl
      obtain ⟨s, hs⟩ : ∃ s, xs[k] = s := ⟨_, rfl⟩
      rw [hs] at g
      have HXK := hide hs
      obtain ⟨p, hp⟩ : ∃ p, off + k * 7 = p := ⟨_, rfl⟩
      rw [hp] at g
      obtain ⟨g0, g1, g2, g3, g4, g6, z1, z2, ve, g5, hrows⟩ := g
      obtain ⟨ar, cr, rfl, _⟩ := At.form hrows
      obtain ⟨client, tag, query, page, state, rows, cursor⟩ := s
      dsimp only at g0 g1 g2 g3 g4 g5 g6 z1 z2 hrows
      obtain ⟨nr, hnr⟩ : ∃ q, rows.length = q := ⟨_, rfl⟩
      have HNR := hide hnr
      rw [hnr] at g5 hrows
      have m0 : Y.cell? ⟨bb, p, none⟩ = some (.int .i64 client) := (HBW.out.cell (p := ⟨bb, p, none⟩) hbw).trans g0
      have m1 : Y.cell? ⟨bb, p + 1, none⟩ = some (.string tag) := (HBW.out.cell (p := ⟨bb, p + 1, none⟩) hbw).trans g1
      have m2 : Y.cell? ⟨bb, p + 2, none⟩ = some (.string query) := (HBW.out.cell (p := ⟨bb, p + 2, none⟩) hbw).trans g2
      have m3 : Y.cell? ⟨bb, p + 3, none⟩ = some (.int .i64 page) := (HBW.out.cell (p := ⟨bb, p + 3, none⟩) hbw).trans g3
      have m4 : Y.cell? ⟨bb, p + 4, none⟩ = some (.int .i64 state) := (HBW.out.cell (p := ⟨bb, p + 4, none⟩) hbw).trans g4
      have m5 : Y.cell? ⟨bb, p + 5, none⟩ = some (.slice ar nr cr) := (HBW.out.cell (p := ⟨bb, p + 5, none⟩) hbw).trans g5
      have m6 : Y.cell? ⟨bb, p + 6, none⟩ = some (.int .i64 cursor) := (HBW.out.cell (p := ⟨bb, p + 6, none⟩) hbw).trans g6
      have HROW := hide hrows
      obtain ⟨X1, hX1⟩ : ∃ x, Y.alloc (Obj.cells #[.int .i64 client, .string tag, .string query, .int .i64 page, .int .i64 state, .slice ar nr cr, .int .i64 cursor] 51) = x := ⟨_, rfl⟩
      have bX1 : Below Y.heap.size Y X1 := by rw [← hX1]; exact (Below.refl _ _).alloc (Nat.le_refl _) _
      obtain ⟨b, hbe⟩ : ∃ b, Y.heap.size = b := ⟨_, rfl⟩
      have HBX : Hid (Box X1 b 51 #[.int .i64 client, .string tag, .string query, .int .i64 page, .int .i64 state, .slice ar nr cr, .int .i64 cursor]) := by rw [← hX1, ← hbe]; exact Box.new _ _ _
      have HBK1 := hide (HBK.out.below bX1)
      have HBW1 := hide (bjoin bX1 HBW.out)
      have HBL1 : Hid (Below (w.heap.size + 1) x1 X1) := HBL.out.trans (bX1.mono (by have := HBL.out.size; have := HS1.out; omega))
      have HBE := hide hbe
      have HX1' := hide hX1
      have HIS0 := hide (fun W (h : Below w.heap.size w W) => isSession_any ⟨client, tag, query, page, state, rows, cursor⟩ (.slice ar nr cr) W z1 z2 (At.kept kept_str HROW.out h))
      unfold sessV at HIS0
      dsimp only at HIS0
      have HKEY := hide (fun W => skey_any ⟨client, tag, query, page, state, rows, cursor⟩ ar nr cr W)
      unfold sessV keyV at HKEY
      dsimp only at HKEY
      clear hs hnr hbe hX1 bX1 g0 g1 g2 g3 g4 g5 g6 hrows hel
      go_upto_region 7 with fail
      (try rw [HX1'.out])
      (try rw [HBE.out])
      clear m0 m1 m2 m3 m4 m5 m6 hp
      have KS : Hid (∀ U, Below X1.heap.size X1 U → (fun U : World => U.cell? ⟨K, 1, none⟩ = some (.map (some M)) ∧ U.cell? ⟨b, 0, none⟩ = some (.int .i64 client) ∧ U.cell? ⟨b, 1, none⟩ = some (.string tag) ∧ U.cell? ⟨b, 2, none⟩ = some (.string query) ∧ U.cell? ⟨b, 3, none⟩ = some (.int .i64 page) ∧ U.cell? ⟨b, 4, none⟩ = some (.int .i64 state) ∧ U.cell? ⟨b, 5, none⟩ = some (.slice ar nr cr) ∧ U.cell? ⟨b, 6, none⟩ = some (.int .i64 cursor)) U) := fun U hU => by
        have o1 := (HBK1.out.below hU).box
        have o2 := HBX.out.below hU
        exact ⟨o1.cell 1 (by simp), o2.cell 0 (by simp), o2.cell 1 (by simp), o2.cell 2 (by simp), o2.cell 3 (by simp), o2.cell 4 (by simp), o2.cell 5 (by simp), o2.cell 6 (by simp)⟩
      obtain ⟨D, hDe⟩ : ∃ D, X1.drew = D := ⟨_, rfl⟩
      have hD : Below X1.heap.size X1 D := by rw [← hDe]; exact (Below.refl _ _).drew
      have hSd : (fun U : World => U.cell? ⟨K, 1, none⟩ = some (.map (some M)) ∧ U.cell? ⟨b, 0, none⟩ = some (.int .i64 client) ∧ U.cell? ⟨b, 1, none⟩ = some (.string tag) ∧ U.cell? ⟨b, 2, none⟩ = some (.string query) ∧ U.cell? ⟨b, 3, none⟩ = some (.int .i64 page) ∧ U.cell? ⟨b, 4, none⟩ = some (.int .i64 state) ∧ U.cell? ⟨b, 5, none⟩ = some (.slice ar nr cr) ∧ U.cell? ⟨b, 6, none⟩ = some (.int .i64 cursor)) D := KS.out D hD
      have HIS := hide (HIS0.out D (bjoin hD HBW1.out))
      obtain ⟨sb, hsb⟩ : ∃ q, sessB ⟨client, tag, query, page, state, rows, cursor⟩ = q := ⟨_, rfl⟩
      have HSB := hide hsb
      cases sb
      · have HX : Hid (tblB xs = false) := tblB_no hkl (fun h => by have := h.1; rw [HXK.out, HSB.out] at this; cases this)
        refine wp_region_two (fun U : World => U.cell? ⟨K, 1, none⟩ = some (.map (some M)) ∧ U.cell? ⟨b, 0, none⟩ = some (.int .i64 client) ∧ U.cell? ⟨b, 1, none⟩ = some (.string tag) ∧ U.cell? ⟨b, 2, none⟩ = some (.string query) ∧ U.cell? ⟨b, 3, none⟩ = some (.int .i64 page) ∧ U.cell? ⟨b, 4, none⟩ = some (.int .i64 state) ∧ U.cell? ⟨b, 5, none⟩ = some (.slice ar nr cr) ∧ U.cell? ⟨b, 6, none⟩ = some (.int .i64 cursor)) 13 (by kernel_rfl) ?_
        rw [hDe]
        clear hDe
        refine wpTwo_take (i := 0) (some 20) (v := ?v0_n) rfl rfl (by kernel_rfl) (by kernel_rfl) (by kernel_rfl) (by kernel_rfl) (fun _ _ _ h => h) hSd (Or.inl ⟨by rfl, ?hy0_n⟩) ?rest0_n
        case hy0_n => (intro w hSw; (try dsimp only at hSw); go_simp; try with_reducible rfl)
        try simp only [Act.put, List.setIfInBounds_toArray, List.set_cons_zero, List.set_cons_succ]
        refine wpTwo_one (j := 1) (by kernel_rfl) rfl (fun K2 hK => ?_)
        go_simp
        refine HIS.out.mono ?_
        rintro e U ⟨rfl, hbU⟩
        dsimp only
        have hUX : Below X1.heap.size X1 U := bjoin hbU hD
        have hSu := KS.out U hUX
        refine hK.out _ _ (fun _ => hSu) ?_
        clear hK K2
        try simp only [Act.put, List.setIfInBounds_toArray, List.set_cons_zero, List.set_cons_succ]
        rw [hsb]
        refine wpTwo_take (i := 2) (some 22) (v := ?v2_n) rfl rfl (by kernel_rfl) (by kernel_rfl) (by kernel_rfl) (by kernel_rfl) (fun _ _ _ h => h) hSu (Or.inl ⟨by rfl, ?hy2_n⟩) ?rest2_n
        case hy2_n => (intro w hSw; (try dsimp only at hSw); go_simp; try with_reducible rfl)
        try simp only [Act.put, List.setIfInBounds_toArray, List.set_cons_zero, List.set_cons_succ]
        refine wpTwo_take (i := 3) (some 23) (v := ?v3_n) rfl rfl (by kernel_rfl) (by kernel_rfl) (by kernel_rfl) (by kernel_rfl) (fun _ _ _ h => h) hSu (Or.inl ⟨by rfl, ?hy3_n⟩) ?rest3_n
        case hy3_n => (intro w hSw; (try dsimp only at hSw); go_simp; try with_reducible rfl)
        try simp only [Act.put, List.setIfInBounds_toArray, List.set_cons_zero, List.set_cons_succ]
        refine wpTwo_take (i := 4) (some 24) (v := undef) rfl rfl (by kernel_rfl) (by kernel_rfl) (by kernel_rfl) (by kernel_rfl) (fun _ _ _ h => h) hSu (Or.inr ⟨by rfl, rfl⟩) ?rest4_n
        try simp only [Act.put, List.setIfInBounds_toArray, List.set_cons_zero, List.set_cons_succ]
        refine wpTwo_take (i := 5) (some 25) (v := undef) rfl rfl (by kernel_rfl) (by kernel_rfl) (by kernel_rfl) (by kernel_rfl) (fun _ _ _ h => h) hSu (Or.inr ⟨by rfl, rfl⟩) ?rest5_n
        try simp only [Act.put, List.setIfInBounds_toArray, List.set_cons_zero, List.set_cons_succ]
        refine wpTwo_take (i := 6) (some 26) (v := undef) rfl rfl (by kernel_rfl) (by kernel_rfl) (by kernel_rfl) (by kernel_rfl) (fun _ _ _ h => h) hSu (Or.inr ⟨by rfl, rfl⟩) ?rest6_n
        try simp only [Act.put, List.setIfInBounds_toArray, List.set_cons_zero, List.set_cons_succ]
        refine wpTwo_take (i := 7) (some 27) (v := undef) rfl rfl (by kernel_rfl) (by kernel_rfl) (by kernel_rfl) (by kernel_rfl) (fun _ _ _ h => h) hSu (Or.inr ⟨by rfl, rfl⟩) ?rest7_n
        try simp only [Act.put, List.setIfInBounds_toArray, List.set_cons_zero, List.set_cons_succ]
        refine wpTwo_take (i := 8) (some 28) (v := undef) rfl rfl (by kernel_rfl) (by kernel_rfl) (by kernel_rfl) (by kernel_rfl) (fun _ _ _ h => h) hSu (Or.inr ⟨by rfl, rfl⟩) ?rest8_n
        try simp only [Act.put, List.setIfInBounds_toArray, List.set_cons_zero, List.set_cons_succ]
        refine wpTwo_take (i := 9) (some 29) (v := undef) rfl rfl (by kernel_rfl) (by kernel_rfl) (by kernel_rfl) (by kernel_rfl) (fun _ _ _ h => h) hSu (Or.inr ⟨by rfl, rfl⟩) ?rest9_n
        try simp only [Act.put, List.setIfInBounds_toArray, List.set_cons_zero, List.set_cons_succ]
        refine wpTwo_take (i := 10) (some 30) (v := undef) rfl rfl (by kernel_rfl) (by kernel_rfl) (by kernel_rfl) (by kernel_rfl) (fun _ _ _ h => h) hSu (Or.inr ⟨by rfl, rfl⟩) ?rest10_n
        try simp only [Act.put, List.setIfInBounds_toArray, List.set_cons_zero, List.set_cons_succ]
        refine wpTwo_take (i := 11) (some 31) (v := undef) rfl rfl (by kernel_rfl) (by kernel_rfl) (by kernel_rfl) (by kernel_rfl) (fun _ _ _ h => h) hSu (Or.inr ⟨by rfl, rfl⟩) ?rest11_n
        try simp only [Act.put, List.setIfInBounds_toArray, List.set_cons_zero, List.set_cons_succ]
        refine wpTwo_take (i := 12) (some 32) (v := ?v12_n) rfl rfl (by kernel_rfl) (by kernel_rfl) (by kernel_rfl) (by kernel_rfl) (fun _ _ _ h => h) hSu (Or.inl ⟨by rfl, ?hy12_n⟩) ?rest12_n
        case hy12_n => (intro w hSw; (try dsimp only at hSw); go_simp; try with_reducible rfl)
        try simp only [Act.put, List.setIfInBounds_toArray, List.set_cons_zero, List.set_cons_succ]
        refine wpTwo_done (by kernel_rfl) ?_ _
        clear hSd hSu hD hbU
        have HFIN := hide (BkPost.no HX.out (bjoin hUX HBW1.out))
        go_wp2_with fail
        go_ret
        exact HFIN.out
      · obtain ⟨o, ho⟩ : ∃ o, keyF ps bs client tag = o := ⟨_, rfl⟩
        have HLK0 := hide (fun U (hU : Below X1.heap.size X1 U) => (HBK1.out.below hU).map.look client tag (client_wf hsb) z1)
        rw [ho] at HLK0
        cases o with
        | some b0 =>
          have HX : Hid (tblB xs = false) := tblB_no hkl (fun h => by
            obtain ⟨q, hq, e1, e2⟩ := keyF_some ho
            have hqm : q.1 ∈ xs.take k := by rw [← HMAP.out]; exact List.mem_map.2 ⟨q, hq, rfl⟩
            obtain ⟨j, hj, ej⟩ := List.mem_iff_getElem.1 hqm
            rw [List.length_take] at hj
            rw [List.getElem_take] at ej
            have := h.2 j (by omega)
            rw [HXK.out, ej, (same_iff _ _).2 ⟨e1, e2⟩] at this
            cases this)
          have HLK : Hid (∀ U, Below X1.heap.size X1 U → (Instr.lookup 46 (.map (some M)) (.agg #[.int .i64 client, .string tag]) false).run Tryz.prog U = .ok (.pointer (some ⟨b0, 0, none⟩)) U) := HLK0.out
          clear ho
          refine wp_region_two (fun U : World => U.cell? ⟨K, 1, none⟩ = some (.map (some M)) ∧ U.cell? ⟨b, 0, none⟩ = some (.int .i64 client) ∧ U.cell? ⟨b, 1, none⟩ = some (.string tag) ∧ U.cell? ⟨b, 2, none⟩ = some (.string query) ∧ U.cell? ⟨b, 3, none⟩ = some (.int .i64 page) ∧ U.cell? ⟨b, 4, none⟩ = some (.int .i64 state) ∧ U.cell? ⟨b, 5, none⟩ = some (.slice ar nr cr) ∧ U.cell? ⟨b, 6, none⟩ = some (.int .i64 cursor)) 13 (by kernel_rfl) ?_
          rw [hDe]
          clear hDe
          refine wpTwo_take (i := 0) (some 20) (v := ?v0_s) rfl rfl (by kernel_rfl) (by kernel_rfl) (by kernel_rfl) (by kernel_rfl) (fun _ _ _ h => h) hSd (Or.inl ⟨by rfl, ?hy0_s⟩) ?rest0_s
          case hy0_s => (intro w hSw; (try dsimp only at hSw); go_simp; try with_reducible rfl)
          try simp only [Act.put, List.setIfInBounds_toArray, List.set_cons_zero, List.set_cons_succ]
          refine wpTwo_one (j := 1) (by kernel_rfl) rfl (fun K2 hK => ?_)
          go_simp
          refine HIS.out.mono ?_
          rintro e U ⟨rfl, hbU⟩
          dsimp only
          have hUX : Below X1.heap.size X1 U := bjoin hbU hD
          have hSu := KS.out U hUX
          refine hK.out _ _ (fun _ => hSu) ?_
          clear hK K2
          try simp only [Act.put, List.setIfInBounds_toArray, List.set_cons_zero, List.set_cons_succ]
          rw [hsb]
          refine wpTwo_take (i := 2) (some 22) (v := ?v2_s) rfl rfl (by kernel_rfl) (by kernel_rfl) (by kernel_rfl) (by kernel_rfl) (fun _ _ _ h => h) hSu (Or.inl ⟨by rfl, ?hy2_s⟩) ?rest2_s
          case hy2_s => (intro w hSw; (try dsimp only at hSw); go_simp; try with_reducible rfl)
          try simp only [Act.put, List.setIfInBounds_toArray, List.set_cons_zero, List.set_cons_succ]
          refine wpTwo_take (i := 3) (some 23) (v := ?v3_s) rfl rfl (by kernel_rfl) (by kernel_rfl) (by kernel_rfl) (by kernel_rfl) (fun _ _ _ h => h) hSu (Or.inl ⟨by rfl, ?hy3_s⟩) ?rest3_s
          case hy3_s => (intro w hSw; (try dsimp only at hSw); go_simp; try with_reducible rfl)
          try simp only [Act.put, List.setIfInBounds_toArray, List.set_cons_zero, List.set_cons_succ]
          refine wpTwo_take (i := 4) (some 24) (v := ?v4_s) rfl rfl (by kernel_rfl) (by kernel_rfl) (by kernel_rfl) (by kernel_rfl) (fun _ _ _ h => h) hSu (Or.inl ⟨by rfl, ?hy4_s⟩) ?rest4_s
          case hy4_s => (intro w hSw; (try dsimp only at hSw); go_simp; try with_reducible rfl)
          try simp only [Act.put, List.setIfInBounds_toArray, List.set_cons_zero, List.set_cons_succ]
          refine wpTwo_take (i := 5) (some 25) (v := ?v5_s) rfl rfl (by kernel_rfl) (by kernel_rfl) (by kernel_rfl) (by kernel_rfl) (fun _ _ _ h => h) hSu (Or.inl ⟨by rfl, ?hy5_s⟩) ?rest5_s
          case hy5_s => (intro w hSw; (try dsimp only at hSw); go_simp; try with_reducible rfl)
          try simp only [Act.put, List.setIfInBounds_toArray, List.set_cons_zero, List.set_cons_succ]
          refine wpTwo_take (i := 6) (some 26) (v := ?v6_s) rfl rfl (by kernel_rfl) (by kernel_rfl) (by kernel_rfl) (by kernel_rfl) (fun _ _ _ h => h) hSu (Or.inl ⟨by rfl, ?hy6_s⟩) ?rest6_s
          case hy6_s => (intro w hSw; (try dsimp only at hSw); go_simp; try with_reducible rfl)
          try simp only [Act.put, List.setIfInBounds_toArray, List.set_cons_zero, List.set_cons_succ]
          refine wpTwo_take (i := 7) (some 27) (v := ?v7_s) rfl rfl (by kernel_rfl) (by kernel_rfl) (by kernel_rfl) (by kernel_rfl) (fun _ _ _ h => h) hSu (Or.inl ⟨by rfl, ?hy7_s⟩) ?rest7_s
          case hy7_s => (intro w hSw; (try dsimp only at hSw); go_simp; try with_reducible rfl)
          try simp only [Act.put, List.setIfInBounds_toArray, List.set_cons_zero, List.set_cons_succ]
          refine wpTwo_take (i := 8) (some 28) (v := ?v8_s) rfl rfl (by kernel_rfl) (by kernel_rfl) (by kernel_rfl) (by kernel_rfl) (fun _ _ _ h => h) hSu (Or.inl ⟨by rfl, ?hy8_s⟩) ?rest8_s
          case hy8_s => (intro w hSw; (try dsimp only at hSw); go_simp; try with_reducible rfl)
          try simp only [Act.put, List.setIfInBounds_toArray, List.set_cons_zero, List.set_cons_succ]
          refine wpTwo_one (j := 9) (by kernel_rfl) rfl (fun K2 hK => ?_)
          go_simp
          refine (HKEY.out U).mono ?_
          rintro e U2 ⟨rfl, hbU2⟩
          dsimp only
          have hUX2 : Below X1.heap.size X1 U2 := bjoin hbU2 hUX
          have hSu2 := KS.out U2 hUX2
          have hlook := HLK.out U2 hUX2
          refine hK.out _ _ (fun _ => hSu2) ?_
          clear hK K2
          try simp only [Act.put, List.setIfInBounds_toArray, List.set_cons_zero, List.set_cons_succ]
          refine wpTwo_one (j := 10) (by kernel_rfl) rfl (fun K2 hK => ?_)
          go_simp
          refine hK.out _ _ (fun _ => hSu2) ?_
          clear hK K2
          try simp only [Act.put, List.setIfInBounds_toArray, List.set_cons_zero, List.set_cons_succ]
          refine wpTwo_take (i := 11) (some 31) (v := ?v11_s) rfl rfl (by kernel_rfl) (by kernel_rfl) (by kernel_rfl) (by kernel_rfl) (fun _ _ _ h => h) hSu2 (Or.inl ⟨by rfl, ?hy11_s⟩) ?rest11_s
          case hy11_s => (intro w hSw; (try dsimp only at hSw); go_simp; try with_reducible rfl)
          try simp only [Act.put, List.setIfInBounds_toArray, List.set_cons_zero, List.set_cons_succ]
          refine wpTwo_take (i := 12) (some 32) (v := ?v12_s) rfl rfl (by kernel_rfl) (by kernel_rfl) (by kernel_rfl) (by kernel_rfl) (fun _ _ _ h => h) hSu2 (Or.inl ⟨by rfl, ?hy12_s⟩) ?rest12_s
          case hy12_s => (intro w hSw; (try dsimp only at hSw); go_simp; try with_reducible rfl)
          try simp only [Act.put, List.setIfInBounds_toArray, List.set_cons_zero, List.set_cons_succ]
          refine wpTwo_done (by kernel_rfl) ?_ _
          clear hSd hSu hSu2 hD hbU hlook
          have HFIN := hide (BkPost.no HX.out (bjoin hUX2 HBW1.out))
          go_wp2_with fail
          go_ret
          exact HFIN.out
        | none =>
          have HLK : Hid (∀ U, Below X1.heap.size X1 U → (Instr.lookup 46 (.map (some M)) (.agg #[.int .i64 client, .string tag]) false).run Tryz.prog U = .ok (.pointer none) U) := HLK0.out
          have HKN := hide ho
          have hss := sess_sm hsb
          have HSS := hide hss
          have HCW := hide (client_wf hsb)
          clear ho
          refine wp_region_two (fun U : World => U.cell? ⟨K, 1, none⟩ = some (.map (some M)) ∧ U.cell? ⟨b, 0, none⟩ = some (.int .i64 client) ∧ U.cell? ⟨b, 1, none⟩ = some (.string tag) ∧ U.cell? ⟨b, 2, none⟩ = some (.string query) ∧ U.cell? ⟨b, 3, none⟩ = some (.int .i64 page) ∧ U.cell? ⟨b, 4, none⟩ = some (.int .i64 state) ∧ U.cell? ⟨b, 5, none⟩ = some (.slice ar nr cr) ∧ U.cell? ⟨b, 6, none⟩ = some (.int .i64 cursor)) 13 (by kernel_rfl) ?_
          rw [hDe]
          clear hDe
          refine wpTwo_take (i := 0) (some 20) (v := ?v0_o) rfl rfl (by kernel_rfl) (by kernel_rfl) (by kernel_rfl) (by kernel_rfl) (fun _ _ _ h => h) hSd (Or.inl ⟨by rfl, ?hy0_o⟩) ?rest0_o
          case hy0_o => (intro w hSw; (try dsimp only at hSw); go_simp; try with_reducible rfl)
          try simp only [Act.put, List.setIfInBounds_toArray, List.set_cons_zero, List.set_cons_succ]
          refine wpTwo_one (j := 1) (by kernel_rfl) rfl (fun K2 hK => ?_)
          go_simp
          refine HIS.out.mono ?_
          rintro e U ⟨rfl, hbU⟩
          dsimp only
          have hUX : Below X1.heap.size X1 U := bjoin hbU hD
          have hSu := KS.out U hUX
          refine hK.out _ _ (fun _ => hSu) ?_
          clear hK K2
          try simp only [Act.put, List.setIfInBounds_toArray, List.set_cons_zero, List.set_cons_succ]
          rw [hsb]
          refine wpTwo_take (i := 2) (some 22) (v := ?v2_o) rfl rfl (by kernel_rfl) (by kernel_rfl) (by kernel_rfl) (by kernel_rfl) (fun _ _ _ h => h) hSu (Or.inl ⟨by rfl, ?hy2_o⟩) ?rest2_o
          case hy2_o => (intro w hSw; (try dsimp only at hSw); go_simp; try with_reducible rfl)
          try simp only [Act.put, List.setIfInBounds_toArray, List.set_cons_zero, List.set_cons_succ]
          refine wpTwo_take (i := 3) (some 23) (v := ?v3_o) rfl rfl (by kernel_rfl) (by kernel_rfl) (by kernel_rfl) (by kernel_rfl) (fun _ _ _ h => h) hSu (Or.inl ⟨by rfl, ?hy3_o⟩) ?rest3_o
          case hy3_o => (intro w hSw; (try dsimp only at hSw); go_simp; try with_reducible rfl)
          try simp only [Act.put, List.setIfInBounds_toArray, List.set_cons_zero, List.set_cons_succ]
          refine wpTwo_take (i := 4) (some 24) (v := ?v4_o) rfl rfl (by kernel_rfl) (by kernel_rfl) (by kernel_rfl) (by kernel_rfl) (fun _ _ _ h => h) hSu (Or.inl ⟨by rfl, ?hy4_o⟩) ?rest4_o
          case hy4_o => (intro w hSw; (try dsimp only at hSw); go_simp; try with_reducible rfl)
          try simp only [Act.put, List.setIfInBounds_toArray, List.set_cons_zero, List.set_cons_succ]
          refine wpTwo_take (i := 5) (some 25) (v := ?v5_o) rfl rfl (by kernel_rfl) (by kernel_rfl) (by kernel_rfl) (by kernel_rfl) (fun _ _ _ h => h) hSu (Or.inl ⟨by rfl, ?hy5_o⟩) ?rest5_o
          case hy5_o => (intro w hSw; (try dsimp only at hSw); go_simp; try with_reducible rfl)
          try simp only [Act.put, List.setIfInBounds_toArray, List.set_cons_zero, List.set_cons_succ]
          refine wpTwo_take (i := 6) (some 26) (v := ?v6_o) rfl rfl (by kernel_rfl) (by kernel_rfl) (by kernel_rfl) (by kernel_rfl) (fun _ _ _ h => h) hSu (Or.inl ⟨by rfl, ?hy6_o⟩) ?rest6_o
          case hy6_o => (intro w hSw; (try dsimp only at hSw); go_simp; try with_reducible rfl)
          try simp only [Act.put, List.setIfInBounds_toArray, List.set_cons_zero, List.set_cons_succ]
          refine wpTwo_take (i := 7) (some 27) (v := ?v7_o) rfl rfl (by kernel_rfl) (by kernel_rfl) (by kernel_rfl) (by kernel_rfl) (fun _ _ _ h => h) hSu (Or.inl ⟨by rfl, ?hy7_o⟩) ?rest7_o
          case hy7_o => (intro w hSw; (try dsimp only at hSw); go_simp; try with_reducible rfl)
          try simp only [Act.put, List.setIfInBounds_toArray, List.set_cons_zero, List.set_cons_succ]
          refine wpTwo_take (i := 8) (some 28) (v := ?v8_o) rfl rfl (by kernel_rfl) (by kernel_rfl) (by kernel_rfl) (by kernel_rfl) (fun _ _ _ h => h) hSu (Or.inl ⟨by rfl, ?hy8_o⟩) ?rest8_o
          case hy8_o => (intro w hSw; (try dsimp only at hSw); go_simp; try with_reducible rfl)
          try simp only [Act.put, List.setIfInBounds_toArray, List.set_cons_zero, List.set_cons_succ]
          refine wpTwo_one (j := 9) (by kernel_rfl) rfl (fun K2 hK => ?_)
          go_simp
          refine (HKEY.out U).mono ?_
          rintro e U2 ⟨rfl, hbU2⟩
          dsimp only
          have hUX2 : Below X1.heap.size X1 U2 := bjoin hbU2 hUX
          have hSu2 := KS.out U2 hUX2
          have hlook := HLK.out U2 hUX2
          refine hK.out _ _ (fun _ => hSu2) ?_
          clear hK K2
          try simp only [Act.put, List.setIfInBounds_toArray, List.set_cons_zero, List.set_cons_succ]
          refine wpTwo_one (j := 10) (by kernel_rfl) rfl (fun K2 hK => ?_)
          go_simp
          refine hK.out _ _ (fun _ => hSu2) ?_
          clear hK K2
          try simp only [Act.put, List.setIfInBounds_toArray, List.set_cons_zero, List.set_cons_succ]
          refine wpTwo_take (i := 11) (some 31) (v := ?v11_o) rfl rfl (by kernel_rfl) (by kernel_rfl) (by kernel_rfl) (by kernel_rfl) (fun _ _ _ h => h) hSu2 (Or.inl ⟨by rfl, ?hy11_o⟩) ?rest11_o
          case hy11_o => (intro w hSw; (try dsimp only at hSw); go_simp; try with_reducible rfl)
          try simp only [Act.put, List.setIfInBounds_toArray, List.set_cons_zero, List.set_cons_succ]
          refine wpTwo_take (i := 12) (some 32) (v := ?v12_o) rfl rfl (by kernel_rfl) (by kernel_rfl) (by kernel_rfl) (by kernel_rfl) (fun _ _ _ h => h) hSu2 (Or.inl ⟨by rfl, ?hy12_o⟩) ?rest12_o
          case hy12_o => (intro w hSw; (try dsimp only at hSw); go_simp; try with_reducible rfl)
          try simp only [Act.put, List.setIfInBounds_toArray, List.set_cons_zero, List.set_cons_succ]
          refine wpTwo_done (by kernel_rfl) ?_ _
          clear hSd hSu hSu2 hD hbU hlook hbU2 hUX
          have HU2 := hide hUX2
          have HBKU := hide (HBK1.out.below hUX2)
          have HBXU := hide (HBX.out.below hUX2)
          have HBWU := hide (bjoin hUX2 HBW1.out)
          have HBLU : Hid (Below (w.heap.size + 1) x1 U2) := HBL1.out.trans (hUX2.mono (by have := HBL1.out.size; have := HS1.out; omega))
          have HCL := hide (cloneT_any rows (.slice ar nr cr) U2 (At.kept kept_str HROW.out HBWU.out) (by have := hss.2.2.1; dsimp only at this; omega))
          have u5 : U2.cell? ⟨b, 5, none⟩ = some (.slice ar nr cr) := HBXU.out.cell 5 (by simp)
          clear hUX2 hss
          go_wp2_with fail
          refine HCL.out.mono ?_
          rintro e V ⟨u', rfl, hFV, hbV⟩
          obtain ⟨a9, c9, rfl, _⟩ := hFV.form
          have hBV := HBXU.out.below hbV
          have v5 : V.cell? ⟨b, 5, none⟩ = some (.slice ar nr cr) := hBV.cell 5 (by simp)
          have vf : V.frozen? ⟨b, 5, none⟩ = false := hBV.frozen 5
          have vl : b < V.heap.size := hBV.lt
          obtain ⟨Z, hZ⟩ : ∃ x, V.setCell ⟨b, 5, none⟩ (.slice a9 rows.length c9) = x := ⟨_, rfl⟩
          have hb1 : w.heap.size + 1 ≤ b := by have := HBK.out.box.lt; have := HBK.out.lows.1; have := HBE.out; omega
          have hBKV := HBKU.out.below hbV
          have hnb : ¬ BIn K M ov ps bs b := fun hi => by have := (HBK.out.own hi).2; have := HBE.out; omega
          have HBKZ : Hid (BK (w.heap.size + 1) Z K M ov nm ps bs) := by rw [← hZ]; exact hBKV.keep fun d hdd => Deep.blk_setCell_other _ ⟨b, 5, none⟩ _ d (by dsimp only; intro e; rw [e] at hdd; exact hnb hdd)
          have HBZ : Hid (Box Z b 51 (tsC (⟨client, tag, query, page, state, rows, cursor⟩, .slice a9 rows.length c9)).toArray) := by rw [← hZ]; have := hBV.set 5 (.slice a9 rows.length c9); show Box _ _ _ _; simpa [tsC] using this
          have HFZ : Hid (FB tC 1 9 (w.heap.size + 1) Z (.slice a9 rows.length c9) rows) := by
            rw [← hZ]
            refine (hFV.low (by have := HBLU.out.size; have := HS1.out; omega)).keep fun d hdd => Deep.blk_setCell_other _ ⟨b, 5, none⟩ _ d (by dsimp only; have := (hFV.own d hdd).1; have := HBXU.out.lt; omega)
          have HDZ : Hid (∀ d, (Value.slice a9 rows.length c9).ownBlock = some d → ∀ q ∈ ps, q.2.ownBlock ≠ some d) := fun d hdd q hq e => by
            have h1 := (hFV.own d (by rw [hdd]; simp)).1
            have h2 := (HBKU.out.own (.inr (.inr (.inr (.inr ⟨q, hq, e⟩))))).2
            omega
          have HBLZ : Hid (Below (w.heap.size + 1) x1 Z) := by rw [← hZ]; exact (HBLU.out.trans (hbV.mono (by have := HBLU.out.size; have := HS1.out; omega))).setCell (p := ⟨b, 5, none⟩) hb1 _
          have HADD := hide (add_any HBKZ.out ⟨client, tag, query, page, state, rows, cursor⟩ a9 c9 b HBZ.out hb1 (fun hm => hnb (.inr (.inr (.inr (.inl hm))))) HSS.out HFZ.out HDZ.out HKN.out HCW.out (by have := HBLZ.out.size; have := HS1.out; omega) (by have := HNM.out; omega) (by rw [HBK.out.len, HLN.out]; omega))
          have HZ := hide hZ
          clear hFV hbV hBV hBKV hnb hZ u5
          go_upto_region 10 with fail
          (try rw [HZ.out])
          clear v5 vf vl
          go_wp2_with fail
          refine HADD.out.mono ?_
          rintro e Q ⟨rfl, ⟨ov', hQ, _⟩, hbQ⟩
          have HQ := hide hQ
          have HBQ : Hid (Below (w.heap.size + 1) x1 Q) := HBLZ.out.trans hbQ
          have HTK : Hid ((ps ++ [((⟨client, tag, query, page, state, rows, cursor⟩ : Sess), Value.slice a9 rows.length c9)]).map Prod.fst = xs.take (k + 1)) := by show _ = _; rw [List.map_append, HMAP.out, List.take_succ_eq_append_getElem hkl, HXK.out]; rfl
          have HPO : Hid (∀ j (hj : j < xs.length), j < k + 1 → placeOk xs j hj) := fun j hj hjk => by
            by_cases e : j = k
            · subst e
              refine ⟨by rw [HXK.out]; exact HSB.out, fun i hi => ?_⟩
              rw [HXK.out]
              cases hsm : sameB ⟨client, tag, query, page, state, rows, cursor⟩ (xs[i]'(by omega)) with
              | false => rfl
              | true =>
                obtain ⟨e1, e2⟩ := (same_iff _ _).1 hsm
                have hm : xs[i]'(by omega) ∈ ps.map Prod.fst := by rw [HMAP.out, List.mem_take_iff_getElem]; exact ⟨i, by omega, rfl⟩
                obtain ⟨q, hq, eq⟩ := List.mem_map.1 hm
                exact absurd ⟨by rw [eq]; exact e1, by rw [eq]; exact e2⟩ (keyF_none HBK.out.len HKN.out q hq)
            · exact HPL.out j hj (by omega)
          clear hQ hbQ
          go_wp2_with fail
          go_roundg (n - (k + 1))
          case measure => omega
          case rel => exact ⟨k + 1, nm + 1, ov', _, _, by omega, rfl, by go_num, HQ.out, HTK.out, by have := HNM.out; omega, HPO.out, HBQ.out⟩
    · have hki : ¬ (k : Int) < (n : Int) := by omega
      obtain rfl : k = n := by omega
      have HX : Hid (tblB xs = true) := by
        show _ = _
        unfold tblB
        rw [decide_eq_true (p := xs.length ≤ 16) (by rw [HN.out]; exact hn16), decide_eq_true (p := ∀ i (h : i < xs.length), placeOk xs i h) (fun i h => HPL.out i h (by rw [← HN.out]; exact h))]
        rfl
      have HFIN : Hid (BkPost w xs (.returned (.pointer (some ⟨K, 0, none⟩))) Y) := ⟨by rw [HX.out, if_pos rfl]; exact ⟨K, M, ov, nm, ps, bs, rfl, HBK.out, by rw [HMAP.out, ← HN.out, List.take_length], by have := HNM.out; omega⟩, HBW.out⟩
      go_wp2_with fail
      go_ret
      exact HFIN.out
end Go.Proofs.YtpmnepalchgcbaaGreatDoor.Msg

namespace Go.Proofs.YtpmnepalchgcbaaGreatDoor.Msg
open Go.ChangeShapes Go.WideShapes Go.ChangeAt Go.RowKit
set_option linter.unusedVariables false
set_option linter.unusedSimpArgs false

/-! (*book).table -/
theorem row_ptr {base : Nat} {X : World} {ao : Option Addr} {n co : Nat} {bs : List Nat} (h : FB pC 1 49 base X (.slice ao n co) bs) (hz : bs.length ≤ 9223372036854775807) (k : Nat) (hk : k < bs.length) : ∃ g off, ao = some ⟨g, off, none⟩ ∧ g < X.heap.size ∧ X.cell? ⟨g, off + k, none⟩ = some (.pointer (some ⟨bs[k], 0, none⟩)) := by
  obtain ⟨h0, hA⟩ := FB.at (C := pC) (c := 1) (Z := fun _ => True) (fun _ => rfl) h hz (fun _ _ => trivial)
  rcases hA with ⟨a9, c9, e9, e2⟩ | ⟨b9, off9, c9, e9, hbb, hA⟩
  · rw [e2] at hk; simp at hk
  · injection e9 with e1 _ _
    have := (hA k hk).1 0 (by simp [pC])
    exact ⟨b9, off9, e1, hbb.2, by simpa [pC] using this⟩
set_option maxRecDepth 100000 in
set_option maxHeartbeats 16000000 in
theorem table_any {base : Nat} {w : World} {K M : Nat} {ov : Value} {nm : Nat} {ps : List (Sess × Value)} {bs : List Nat} (h : BK base w K M ov nm ps bs) (hbase : base ≤ w.heap.size) (hl : ps.length ≤ 1000) :
    Calls Tryz.prog 18 #[.pointer (some ⟨K, 0, none⟩)] w fun e w' => ∃ t, e = .returned (.agg #[t]) ∧ TE base w' t ps ∧ Below w.heap.size w w' := by
  have HH := hide h
  obtain ⟨aw, cw, rfl, _⟩ := h.row.form
  obtain ⟨n, hnn⟩ : ∃ n, bs.length = n := ⟨_, rfl⟩
  have HN := hide hnn
  have HPN : Hid (ps.length = n) := by rw [← h.len]; exact hnn
  have hn : n ≤ 1000 := by rw [← HPN.out]; exact hl
  rw [hnn] at HH
  obtain ⟨x2, hx2⟩ : ∃ x, (w.alloc (Obj.cells #[.slice none 0 0] 24)).alloc (Obj.cells #[.slice none 0 0] 24) = x := ⟨_, rfl⟩
  have HR2 : Hid (Box x2 w.heap.size 24 #[.slice none 0 0]) := by rw [← hx2]; exact (Box.new _ _ _).alloc _
  have HO2 : Hid (Box x2 (w.heap.size + 1) 24 #[.slice none 0 0]) := by
    have := Box.new (w.alloc (Obj.cells #[.slice none 0 0] 24)) 24 #[.slice none 0 0]
    rw [Deep.nblk_alloc, hx2] at this
    exact this
  have HB2 : Hid (Below w.heap.size w x2) := by
    rw [← hx2]
    have h1 := (Below.refl w.heap.size w).alloc (Nat.le_refl _) (Obj.cells #[.slice none 0 0] 24)
    exact h1.alloc h1.size _
  have k0 : x2.cell? ⟨K, 0, none⟩ = some (.slice aw n cw) := (HH.out.box.below HB2.out).cell 0 (by simp)
  have HX2 := hide hx2
  clear h hnn hx2 hl
  go_enter Tryz.func18, Tryz.ntmps18
  go_upto_region 2 with fail
  (try rw [HX2.out])
  go_wp2_with fail
  go_loopg [11] n (fun q i wr => ∃ (k : Nat) (ao : Option Addr) (co : Nat), k ≤ n ∧ q = n - k ∧ i = .int .i64 (k : Int) ∧ Box wr (w.heap.size + 1) 24 #[.slice ao k co] ∧ Box wr w.heap.size 24 #[.slice none 0 0] ∧ FB tsC 7 51 (w.heap.size + 2) wr (.slice ao k co) (ps.take k) ∧ Below w.heap.size w wr)
  case atStart => exact ⟨0, none, 0, Nat.zero_le _, rfl, rfl, HO2.out, HR2.out, FB.nil _ _ _ _ _, HB2.out⟩
  case round =>
    obtain ⟨k, ao, co, hk, rfl, rfl, hO, hR, hF, hb⟩ := hrel
    obtain ⟨Y, rfl⟩ : ∃ x, x = wr := ⟨_, rfl⟩
    have HO := hide hO
    have HR := hide hR
    have HF := hide hF
    have HB := hide hb
    clear hO hR hF hb k0
    by_cases hlt : k < n
    · have hki : (k : Int) < (n : Int) := by omega
      have hk0 : (0 : Int) ≤ (k : Int) := by omega
      have hkb : k < bs.length := by rw [HN.out]; exact hlt
      have hkp : k < ps.length := by rw [HPN.out]; exact hlt
      obtain ⟨g, off, rfl, hgl, hgc⟩ := row_ptr HH.out.row (by rw [HN.out]; omega) k hkb
      obtain ⟨b, hbk⟩ : ∃ b, bs[k] = b := ⟨_, rfl⟩
      have hBs := HH.out.ses k hkp hkb
      rw [hbk] at hgc hBs
      have m0 : Y.cell? ⟨g, off + k, none⟩ = some (.pointer (some ⟨b, 0, none⟩)) := (HB.out.cell (p := ⟨g, off + k, none⟩) hgl).trans hgc
      obtain ⟨⟨⟨client, tag, query, page, state, rows, cursor⟩, u⟩, hpk⟩ : ∃ p, ps[k] = p := ⟨_, rfl⟩
      rw [hpk] at hBs
      have HBS := hide hBs
      have hFu := (HH.out.els ps[k] (List.getElem_mem hkp)).2
      rw [hpk] at hFu
      obtain ⟨ar, cr, hu, _⟩ := hFu.form
      dsimp only at hu
      have HTK : Hid (ps.take (k + 1) = ps.take k ++ [(⟨client, tag, query, page, state, rows, cursor⟩, u)]) := by show _ = _; rw [List.take_succ_eq_append_getElem hkp, hpk]
      have KS : Hid (∀ U, Below w.heap.size w U → Box U (w.heap.size + 1) 24 #[.slice ao k co] → (fun U : World => U.cell? ⟨w.heap.size + 1, 0, none⟩ = some (.slice ao k co) ∧ U.cell? ⟨b, 0, none⟩ = some (.int .i64 client) ∧ U.cell? ⟨b, 1, none⟩ = some (.string tag) ∧ U.cell? ⟨b, 2, none⟩ = some (.string query) ∧ U.cell? ⟨b, 3, none⟩ = some (.int .i64 page) ∧ U.cell? ⟨b, 4, none⟩ = some (.int .i64 state) ∧ U.cell? ⟨b, 5, none⟩ = some u ∧ U.cell? ⟨b, 6, none⟩ = some (.int .i64 cursor)) U) := fun U hU hO => by
        have o2 := HBS.out.below hU
        exact ⟨hO.cell 0 (by simp), o2.cell 0 (by simp [tsC]), o2.cell 1 (by simp [tsC]), o2.cell 2 (by simp [tsC]), o2.cell 3 (by simp [tsC]), o2.cell 4 (by simp [tsC]), o2.cell 5 (by simp [tsC]), o2.cell 6 (by simp [tsC])⟩
      obtain ⟨D, hDe⟩ : ∃ D, Y.drew = D := ⟨_, rfl⟩
      have hD : Below Y.heap.size Y D := by rw [← hDe]; exact (Below.refl _ _).drew
      have hBD := bjoin hD HB.out
      have hOD := HO.out.below hD
      have hRD := HR.out.below hD
      have hFD := HF.out.below hD
      have hSd : (fun U : World => U.cell? ⟨w.heap.size + 1, 0, none⟩ = some (.slice ao k co) ∧ U.cell? ⟨b, 0, none⟩ = some (.int .i64 client) ∧ U.cell? ⟨b, 1, none⟩ = some (.string tag) ∧ U.cell? ⟨b, 2, none⟩ = some (.string query) ∧ U.cell? ⟨b, 3, none⟩ = some (.int .i64 page) ∧ U.cell? ⟨b, 4, none⟩ = some (.int .i64 state) ∧ U.cell? ⟨b, 5, none⟩ = some u ∧ U.cell? ⟨b, 6, none⟩ = some (.int .i64 cursor)) D := KS.out D hBD hOD
      have hlen : (ps.take k).length = k := by rw [List.length_take]; omega
      obtain ⟨a8, c8, w8, hr8', hF8, ho8, hv8⟩ := row_more (C := tsC) (c := 7) (bytes := 88) (e := 51) Tryz.underlying22 info_Sess rfl (by decide) hFD (⟨client, tag, query, page, state, rows, cursor⟩, u) rfl (fun z hz => by
        have hz' : z = .int .i64 client ∨ z = .string tag ∨ z = .string query ∨ z = .int .i64 page ∨ z = .int .i64 state ∨ z = u ∨ z = .int .i64 cursor := by simpa [tsC] using hz
        rcases hz' with rfl | rfl | rfl | rfl | rfl | h | rfl
        all_goals first | rfl | (rw [h, hu]; rfl)) (by have := hOD.lt; omega) hlen (by omega) (by decide)
      have hr8 : (Builtin.append_ #[22, 22] 22 #[.slice ao k co, .slice (some ⟨D.heap.size, 0, none⟩) 1 1]).run Tryz.prog (D.alloc (.cells #[.int .i64 client, .string tag, .string query, .int .i64 page, .int .i64 state, u, .int .i64 cursor] 51)) = .ok (.slice a8 (k + 1) c8) w8 := hr8'
      have hal := (Below.refl D.heap.size D).alloc (Nat.le_refl _) (Obj.cells #[.int .i64 client, .string tag, .string query, .int .i64 page, .int .i64 state, u, .int .i64 cursor] 51)
      have hSA := KS.out _ (bjoin hal hBD) (hOD.below hal)
      have hO8 := hOD.only ho8 (fun hm => by have := (hFD.own _ hm).1; omega)
      have hR8 := hRD.only ho8 (fun hm => by have := (hFD.own _ hm).1; omega)
      have hB8 : Below w.heap.size w w8 := hBD.trans (ho8.below hBD.size fun d hd => by have := (hFD.own d hd).1; omega)
      have hS8 := KS.out w8 hB8 hO8
      have o0 : w8.cell? ⟨w.heap.size + 1, 0, none⟩ = some (.slice ao k co) := hO8.cell 0 (by simp)
      have of : w8.frozen? ⟨w.heap.size + 1, 0, none⟩ = false := hO8.frozen 0
      have ol : w.heap.size + 1 < w8.heap.size := hO8.lt
      have HO9 : Hid (Box (w8.setCell ⟨w.heap.size + 1, 0, none⟩ (.slice a8 (k + 1) c8)) (w.heap.size + 1) 24 #[.slice a8 (k + 1) c8]) := hide (by have := hO8.set 0 (.slice a8 (k + 1) c8); simpa using this)
      have HR9 : Hid (Box (w8.setCell ⟨w.heap.size + 1, 0, none⟩ (.slice a8 (k + 1) c8)) w.heap.size 24 #[.slice none 0 0]) := hR8.other (by simp) _
      have HF9 : Hid (FB tsC 7 51 (w.heap.size + 2) (w8.setCell ⟨w.heap.size + 1, 0, none⟩ (.slice a8 (k + 1) c8)) (.slice a8 (k + 1) c8) (ps.take (k + 1))) := by rw [HTK.out]; exact hF8.set1 (by omega) _
      have HB9 := hide (hB8.setCell (p := ⟨w.heap.size + 1, 0, none⟩) (Nat.le_succ _) (.slice a8 (k + 1) c8))
      rw [hu] at hSd hSA hS8 hr8
      clear hgc hBs hFu hpk hbk hkb hkp hF8 ho8 hv8 hr8' hO8 hR8 hB8 hal hlen hFD hOD hRD hBD
      go_upto_region 5 with fail
      refine wp_region_two (fun U : World => U.cell? ⟨w.heap.size + 1, 0, none⟩ = some (.slice ao k co) ∧ U.cell? ⟨b, 0, none⟩ = some (.int .i64 client) ∧ U.cell? ⟨b, 1, none⟩ = some (.string tag) ∧ U.cell? ⟨b, 2, none⟩ = some (.string query) ∧ U.cell? ⟨b, 3, none⟩ = some (.int .i64 page) ∧ U.cell? ⟨b, 4, none⟩ = some (.int .i64 state) ∧ U.cell? ⟨b, 5, none⟩ = some (.slice ar rows.length cr) ∧ U.cell? ⟨b, 6, none⟩ = some (.int .i64 cursor)) 7 (by kernel_rfl) ?_
      rw [hDe]
      clear hDe
      refine wpTwo_take (i := 0) (some 15) (v := ?v0_5) rfl rfl (by kernel_rfl) (by kernel_rfl) (by kernel_rfl) (by kernel_rfl) (fun _ _ _ h => h) hSd (Or.inl ⟨by rfl, ?hy0_5⟩) ?rest0_5
      case hy0_5 => (intro w hSw; (try dsimp only at hSw); go_simp; try with_reducible rfl)
      try simp only [Act.put, List.setIfInBounds_toArray, List.set_cons_zero, List.set_cons_succ]
      refine wpTwo_take (i := 1) (some 16) (v := ?v1_5) rfl rfl (by kernel_rfl) (by kernel_rfl) (by kernel_rfl) (by kernel_rfl) (fun _ _ _ h => h) hSd (Or.inl ⟨by rfl, ?hy1_5⟩) ?rest1_5
      case hy1_5 => (intro w hSw; (try dsimp only at hSw); go_simp; try with_reducible rfl)
      try simp only [Act.put, List.setIfInBounds_toArray, List.set_cons_zero, List.set_cons_succ]
      refine wpTwo_take (i := 2) (some 17) (v := ?v2_5) rfl rfl (by kernel_rfl) (by kernel_rfl) (by kernel_rfl) (by kernel_rfl) (fun _ _ _ h => h) hSd (Or.inl ⟨by rfl, ?hy2_5⟩) ?rest2_5
      case hy2_5 => (intro w hSw; (try dsimp only at hSw); go_simp; try with_reducible rfl)
      try simp only [Act.put, List.setIfInBounds_toArray, List.set_cons_zero, List.set_cons_succ]
      refine wpTwo_take (i := 3) (some 18) (v := ?v3_5) rfl rfl (by kernel_rfl) (by kernel_rfl) (by kernel_rfl) (by kernel_rfl) (fun _ _ _ h => h) hSd (Or.inl ⟨by rfl, ?hy3_5⟩) ?rest3_5
      case hy3_5 => (intro w hSw; (try dsimp only at hSw); go_simp; try with_reducible rfl)
      try simp only [Act.put, List.setIfInBounds_toArray, List.set_cons_zero, List.set_cons_succ]
      refine wpTwo_take (i := 4) (some 19) (v := ?v4_5) rfl rfl (by kernel_rfl) (by kernel_rfl) (by kernel_rfl) (by kernel_rfl) (fun _ _ _ h => h) hSd (Or.inl ⟨by rfl, ?hy4_5⟩) ?rest4_5
      case hy4_5 => (intro w hSw; (try dsimp only at hSw); go_simp; try with_reducible rfl)
      try simp only [Act.put, List.setIfInBounds_toArray, List.set_cons_zero, List.set_cons_succ]
      refine wpTwo_one (j := 5) (by kernel_rfl) rfl (fun K2 hK => ?_)
      go_simp
      refine hK.out _ _ (fun _ => hSA) ?_
      clear hK K2
      try simp only [Act.put, List.setIfInBounds_toArray, List.set_cons_zero, List.set_cons_succ]
      refine wpTwo_one (j := 6) (by kernel_rfl) rfl (fun K2 hK => ?_)
      refine step_app rfl _ _ 22 rfl hr8 (by first | rfl | simp [Act.eval, Act.put]) (by first | rfl | simp [Act.eval, Act.put]) ?_
      show K2 (Act.put _ (some 21) _) _
      refine hK.out _ _ (fun _ => hS8) ?_
      clear hK K2
      try simp only [Act.put, List.setIfInBounds_toArray, List.set_cons_zero, List.set_cons_succ]
      refine wpTwo_one (j := 7) (by kernel_rfl) rfl (fun K2 hK => ?_)
      go_simp
      refine hK.out _ _ (fun h => absurd h (by decide)) ?_
      clear hK K2
      refine wpTwo_one (j := 8) (by kernel_rfl) rfl (fun K2 hK => ?_)
      go_simp
      refine hK.out _ _ (fun h => absurd h (by decide)) ?_
      clear hK K2
      refine wpTwo_done (by kernel_rfl) ?_ _
      clear hSd hSA hS8 hr8 o0 of ol hD m0
      go_wp2_with fail
      go_roundg (n - (k + 1))
      case measure => omega
      case rel => exact ⟨k + 1, a8, c8, by omega, rfl, by go_num, HO9.out, HR9.out, HF9.out, HB9.out⟩
    · have hki : ¬ (k : Int) < (n : Int) := by omega
      obtain rfl : k = n := by omega
      have o0 : Y.cell? ⟨w.heap.size + 1, 0, none⟩ = some (.slice ao k co) := HO.out.cell 0 (by simp)
      have r0 : Y.cell? ⟨w.heap.size, 0, none⟩ = some (.slice none 0 0) := HR.out.cell 0 (by simp)
      have rf : Y.frozen? ⟨w.heap.size, 0, none⟩ = false := HR.out.frozen 0
      have rl : w.heap.size < Y.heap.size := HR.out.lt
      have HFE : Hid (∀ x, TE base (Y.setCell ⟨w.heap.size, 0, none⟩ x) (.slice ao k co) ps ∧ Below w.heap.size w (Y.setCell ⟨w.heap.size, 0, none⟩ x)) := fun x => by
        have hb := HB.out.setCell (p := ⟨w.heap.size, 0, none⟩) (Nat.le_refl _) x
        have hr := (HF.out.set1 (b := w.heap.size) (o := 0) (by omega) x).low (base' := base) (by omega)
        rw [← HPN.out, List.take_length] at hr
        rw [HPN.out] at hr
        exact ⟨⟨hr, fun p hp => ⟨(HH.out.els p hp).1, (HH.out.els p hp).2.below hb⟩, HH.out.nd⟩, hb⟩
      go_wp2_with fail
      exact bodyPost_ret (v := .agg #[.slice ao k co]) (by simp [results, Tryz.results18, go_sem, r0, rl]) rfl ⟨_, rfl, (HFE.out _).1, (HFE.out _).2⟩
end Go.Proofs.YtpmnepalchgcbaaGreatDoor.Msg
