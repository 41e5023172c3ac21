import Derived.Test.YtpmnepalchgcbaaDoorTblPutwithTblApplyPwithBkMap
import Derived.Deep.LoopGhost
import Derived.Deep.DeepCutAuto
namespace Go.Proofs.YtpmnepalchgcbaaDoor.Msg
open Go.ChangeShapes Go.WideShapes Go.ChangeAt Go.RowKit
set_option linter.unusedVariables false
set_option linter.unusedSimpArgs false

/-! of the program: key, isLive, slices.Clone of texts -/
def keyV (c : Int) (t : ByteArray) : Value := .agg #[.int .i64 c, .string t]
set_option maxRecDepth 100000 in
set_option maxHeartbeats 2000000 in
theorem skey_any (s : Sess) (a : Option Addr) (n c : Nat) (w : World) :
    Calls Tryd.prog 28 #[sessV s (.slice a n c)] w fun e w' => e = .returned (keyV s.client s.tag) ∧ Below w.heap.size w w' := by
  obtain ⟨client, tag, query, page, state, rows, cursor⟩ := s
  unfold sessV keyV
  dsimp only
  obtain ⟨x2, hx2⟩ : ∃ x, (w.alloc (Obj.cells #[.int .i64 client, .string tag, .string query, .int .i64 page, .int .i64 state, .slice a n c, .int .i64 cursor] 38)).alloc (Obj.cells #[.int .i64 0, .string ⟨#[]⟩] 70) = x := ⟨_, rfl⟩
  have o1 : Box x2 w.heap.size 38 #[.int .i64 client, .string tag, .string query, .int .i64 page, .int .i64 state, .slice a n c, .int .i64 cursor] := by rw [← hx2]; exact (Box.new _ _ _).alloc _
  have o2 : Box x2 (w.heap.size + 1) 70 #[.int .i64 0, .string ⟨#[]⟩] := by
    have := Box.new (w.alloc (Obj.cells #[.int .i64 client, .string tag, .string query, .int .i64 page, .int .i64 state, .slice a n c, .int .i64 cursor] 38)) 70 #[.int .i64 0, .string ⟨#[]⟩]
    rw [Deep.nblk_alloc, hx2] at this
    exact this
  have hb : Below w.heap.size w x2 := by
    rw [← hx2]
    have h1 := (Below.refl w.heap.size w).alloc (Nat.le_refl _) (Obj.cells #[.int .i64 client, .string tag, .string query, .int .i64 page, .int .i64 state, .slice a n c, .int .i64 cursor] 38)
    exact h1.alloc h1.size _
  have d0 : x2.cell? ⟨w.heap.size, 0, none⟩ = some (.int .i64 client) := o1.cell 0 (by simp)
  have d1 : x2.cell? ⟨w.heap.size, 1, none⟩ = some (.string tag) := o1.cell 1 (by simp)
  have z0 : x2.cell? ⟨w.heap.size + 1, 0, none⟩ = some (.int .i64 0) := o2.cell 0 (by simp)
  have z1 : x2.cell? ⟨w.heap.size + 1, 1, none⟩ = some (.string ⟨#[]⟩) := o2.cell 1 (by simp)
  have f0 := o2.frozen 0
  have f1 := o2.frozen 1
  have zl := o2.lt
  have HB := hide (fun x y => (hb.setCell (p := ⟨w.heap.size + 1, 0, none⟩) (Nat.le_succ _) x).setCell (p := ⟨w.heap.size + 1, 1, none⟩) (Nat.le_succ _) y)
  have HX := hide hx2
  clear o1 o2 hb hx2
  go_enter Tryd.func28, Tryd.ntmps28
  go_upto_region 1 with fail
  (try rw [HX.out])
  go_wp2_with fail
  exact bodyPost_ret (v := .agg #[.int .i64 client, .string tag]) (by simp [results, Tryd.results28, go_sem, z0, z1, zl]) rfl ⟨rfl, HB.out _ _⟩
theorem tflat_one {xs : List ByteArray} : ∀ u ∈ flat tC xs, u.oneCell' = true := fun u hu => by
  simp only [flat, List.mem_flatten, List.mem_map] at hu
  obtain ⟨l, ⟨x, _, rfl⟩, hu⟩ := hu
  rw [List.mem_singleton.1 hu]
  rfl
set_option maxRecDepth 100000 in
/-- many texts more, as they lie -/
theorem appT {w : World} {xs : List ByteArray} {a : Addr} {cap lo : Nat} (hv : StrsAt lo w (.slice (some a) xs.length cap) xs) (hl : xs.length ≤ 100000) (ty : TypeId) :
    ∃ v' w', (Builtin.append_ #[36, 36] ty #[.slice (some ⟨w.heap.size, 0, none⟩) 0 0, .slice (some a) xs.length cap]).run Tryd.prog (w.alloc (.cells #[] 9)) = .ok v' w' ∧ FB tC 1 9 w.heap.size w' v' xs ∧ Below w.heap.size w w' := by
  obtain ⟨i0, hi, hz0, hz1, hz2⟩ := info_parts tinfo
  have hb : Below w.heap.size w (w.alloc (.cells #[] 9)) := (Below.refl _ _).alloc (Nat.le_refl _) _
  have hnews : ∀ j u, (flat tC xs)[j]? = some u → (w.alloc (.cells #[] 9)).cell? (a.add j) = some u := fun j u hu => by
    have hj : j < xs.length := by
      by_cases hj : j < (flat tC xs).length
      · rw [flat_len (c := 1) (fun _ => rfl)] at hj; omega
      · rw [List.getElem?_eq_none (by omega)] at hu; cases hu
    obtain ⟨_, _, e0, hc⟩ := At.form hv
    injection e0 with e0 _ _
    obtain ⟨b, off, e, _, hlt, hel, _⟩ := hc j hj
    rw [← e0] at e
    have e9 := Option.some.inj e
    subst e9
    have h2 := flat_get (C := tC) (c := 1) (fun _ => rfl) xs j 0 hj (by omega)
    rw [show j * 1 + 0 = j by omega, hu] at h2
    have h2 := Option.some.inj h2
    have e2 : ((⟨b, off, none⟩ : Addr).add j) = ⟨b, off + j, none⟩ := by
      simp only [Addr.add]
      by_cases h0 : j = 0
      · subst h0; simp
      · rw [if_neg h0]
    rw [e2, hb.cell (p := ⟨b, off + j, none⟩) hlt, h2]
    simpa [tC] using hel
  obtain ⟨v', w', hr, ho, hg, _, _⟩ := run_append_own_at (P := Tryd.prog) (w := w.alloc (.cells #[] 9)) w.heap.size 36 ty 9 i0 _ 1 16 Tryd.underlying36 hi hz0 hz1 hz2 rfl (by decide) (.slice (some ⟨w.heap.size, 0, none⟩) 0 0) 0 [] (FB.lit tC 1 9 w) a xs.length cap (flat tC xs) (by rw [flat_len (c := 1) (fun _ => rfl)]) hnews tflat_one (by unfold maxLen; omega) (by omega) (by rw [Deep.nblk_alloc]; omega)
  refine ⟨v', w', hr, ?_, hb.trans ⟨hg.os, hg.tape, hg.output, hg.size, fun k hk => hg.block k (by rw [Deep.nblk_alloc]; omega) fun e => ?_⟩⟩
  · unfold FB
    rw [Nat.zero_add, List.nil_append] at ho
    exact ho
  · simp [Value.ownBlock] at e
    omega
set_option maxRecDepth 100000 in
set_option maxHeartbeats 2000000 in
theorem cloneT_any (xs : List ByteArray) (v : Value) (w : World) {lo : Nat} (hv : StrsAt lo w v xs) (hl : xs.length ≤ 100000) :
    Calls Tryd.prog 29 #[v] w fun en w' => ∃ u, en = .returned u ∧ FB tC 1 9 w.heap.size w' u xs ∧ Below w.heap.size w w' := by
  obtain ⟨a, cap, rfl, hc⟩ := At.form hv
  cases a with
  | none =>
    have : xs = [] := by
      cases xs with
      | nil => rfl
      | cons x l => obtain ⟨b, off, e, _⟩ := hc 0 (by simp); cases e
    subst this
    clear hc hv
    have he : ∀ w : World, (binOp .eql 36 (.slice none 0 cap) (.slice none 0 0)).run Tryd.prog w = .ok (.bool true) w := fun _ => rfl
    simp only [List.length_nil]
    go_enter Tryd.func29, Tryd.ntmps29
    go_wp2_with fail
    go_ret
    exact ⟨_, rfl, FB.nil _ _ _ _ _, Below.refl _ _⟩
  | some a =>
    obtain ⟨v', w', hr, hF, hb⟩ := appT hv hl 36
    have HF := hide (And.intro hF hb)
    clear hc hv hF hb
    have he : ∀ w : World, (binOp .eql 36 (.slice (some a) xs.length cap) (.slice none 0 0)).run Tryd.prog w = .ok (.bool false) w := fun _ => rfl
    go_enter Tryd.func29, Tryd.ntmps29
    go_wp2_with (first | (at_builtin; refine wpList_app rfl _ _ 36 rfl hr (by first | rfl | simp [Act.eval, Act.put]) (by first | rfl | simp [Act.eval, Act.put]) ?_))
    go_ret
    exact ⟨_, rfl, HF.out.1, HF.out.2⟩
end Go.Proofs.YtpmnepalchgcbaaDoor.Msg

namespace Go.Proofs.YtpmnepalchgcbaaDoor.Msg
open Go.ChangeShapes Go.WideShapes Go.ChangeAt Go.RowKit
set_option linter.unusedVariables false
set_option linter.unusedSimpArgs false

/-! the book: the sessions' blocks in their order, and a map of them -/
def pC (b : Nat) : List Value := [.pointer (some ⟨b, 0, none⟩)]
def keyF (ps : List (Sess × Value)) (bs : List Nat) (c : Int) (t : ByteArray) : Option Nat := ((ps.zip bs).find? fun q => decide (q.1.1.client = c) && decide (q.1.1.tag = t)).map Prod.snd
theorem keyF_snoc {ps : List (Sess × Value)} {bs : List Nat} (hl : bs.length = ps.length) (p : Sess × Value) (b : Nat) (hn : keyF ps bs p.1.client p.1.tag = none) : keyF (ps ++ [p]) (bs ++ [b]) = fun j t => if j = p.1.client ∧ t = p.1.tag then some b else keyF ps bs j t := by
  funext j t
  unfold keyF at hn ⊢
  rw [List.zip_append (by omega), List.find?_append]
  by_cases h : j = p.1.client ∧ t = p.1.tag
  · rw [if_pos h]
    obtain ⟨rfl, rfl⟩ := h
    rw [Option.map_eq_none_iff] at hn
    rw [hn]
    simp
  · rw [if_neg h]
    have e : (List.find? (fun q : (Sess × Value) × Nat => decide (q.1.1.client = j) && decide (q.1.1.tag = t)) ([p].zip [b])) = none := by
      rw [List.find?_eq_none]
      intro x hx
      simp at hx
      subst hx
      simp
      intro e1 e2
      exact h ⟨e1.symm, e2.symm⟩
    rw [e, Option.or_none]
theorem pinfo : (Tryd.prog.info? 68).map (fun i => (i.zero, i.size, i.bytes)) = some (some (.pointer none), 1, 8) := by kernel_rfl
structure BK (base : Nat) (X : World) (K M : Nat) (ov : Value) (n : Nat) (ps : List (Sess × Value)) (bs : List Nat) : Prop where
  box : Box X K 67 #[ov, .map (some M)]
  row : FB pC 1 68 base X ov bs
  map : MapF X M n (keyF ps bs)
  len : bs.length = ps.length
  ses : ∀ i (h1 : i < ps.length) (h2 : i < bs.length), Box X bs[i] 38 (tsC ps[i]).toArray
  lob : ∀ b ∈ bs, base ≤ b
  nb : bs.Nodup
  els : ∀ p ∈ ps, SmS p.1 ∧ FB tC 1 9 base X p.2 p.1.rows
  nd : ((ps.map (·.2)).filterMap Value.ownBlock).Nodup
  lows : base ≤ K ∧ base ≤ M
def BIn (K M : Nat) (ov : Value) (ps : List (Sess × Value)) (bs : List Nat) (b : Nat) : Prop := b = K ∨ b = M ∨ ov.ownBlock = some b ∨ b ∈ bs ∨ ∃ p ∈ ps, p.2.ownBlock = some b
section
variable {base : Nat} {X X' : World} {K M : Nat} {ov : Value} {n : Nat} {ps : List (Sess × Value)} {bs : List Nat}
theorem BK.keep (h : BK base X K M ov n ps bs) (hb : ∀ b, BIn K M ov ps bs b → X'.heap[b]? = X.heap[b]?) : BK base X' K M ov n ps bs :=
  ⟨h.box.keep (hb K (.inl rfl)), h.row.keep fun b hb' => hb b (.inr (.inr (.inl (by simpa using hb')))), h.map.keep (hb M (.inr (.inl rfl))), h.len, fun i h1 h2 => (h.ses i h1 h2).keep (hb _ (.inr (.inr (.inr (.inl (List.getElem_mem h2)))))), h.lob, h.nb, fun p hp => ⟨(h.els p hp).1, (h.els p hp).2.keep fun b hb' => hb b (.inr (.inr (.inr (.inr ⟨p, hp, by simpa using hb'⟩))))⟩, h.nd, h.lows⟩
theorem BK.own (h : BK base X K M ov n ps bs) {b : Nat} (hb : BIn K M ov ps bs b) : base ≤ b ∧ b < X.heap.size := by
  rcases hb with rfl | rfl | hb | hb | ⟨p, hp, hb⟩
  · exact ⟨h.lows.1, h.box.lt⟩
  · exact ⟨h.lows.2, h.map.lt⟩
  · exact h.row.own b (by rw [hb]; simp)
  · obtain ⟨i, hi, rfl⟩ := List.mem_iff_getElem.1 hb
    exact ⟨h.lob _ hb, (h.ses i (by rw [← h.len]; exact hi) hi).lt⟩
  · exact (h.els p hp).2.own b (by rw [hb]; simp)
theorem BK.below (h : BK base X K M ov n ps bs) (hb : Below X.heap.size X X') : BK base X' K M ov n ps bs := h.keep fun b hi => hb.block b (h.own hi).2
/-- blocks by their types -/
theorem BK.rowBlk (h : BK base X K M ov n ps bs) {b : Nat} (hb : ov.ownBlock = some b) : ∃ cs, X.heap[b]? = some (.cells cs 68 (0, 0)) := h.row.blk hb
end
theorem blk_ne {X : World} {a b : Nat} {cs ds : Array Value} {t u : TypeId} (ha : X.heap[a]? = some (.cells cs t (0, 0))) (hb : X.heap[b]? = some (.cells ds u (0, 0))) (h : t ≠ u) : a ≠ b := fun e => by
  rw [e, hb] at ha
  injection ha with ha
  injection ha with _ ha _
  exact h ha.symm
theorem MapF.neB {w : World} {M n b : Nat} {f : Int → ByteArray → Option Nat} {t : TypeId} {cs : Array Value} (h : MapF w M n f) (hb : w.heap[b]? = some (.cells cs t (0, 0))) : b ≠ M := h.ne (show Box w b t cs from hb)
set_option maxRecDepth 100000 in
set_option maxHeartbeats 16000000 in
theorem add_any {base : Nat} {w : World} {K M : Nat} {ov : Value} {n : Nat} {ps : List (Sess × Value)} {bs : List Nat} (h : BK base w K M ov n ps bs) (s : Sess) (ar : Option Addr) (cr b : Nat) (hB : Box w b 38 (tsC (s, .slice ar s.rows.length cr)).toArray) (hbb : base ≤ b) (hnb : b ∉ bs) (hs : SmS s) (hF : FB tC 1 9 base w (.slice ar s.rows.length cr) s.rows)
    (hd : ∀ d, (Value.slice ar s.rows.length cr).ownBlock = some d → ∀ q ∈ ps, q.2.ownBlock ≠ some d) (hk : keyF ps bs s.client s.tag = none) (hcw : (Lit.int .i64 s.client).wf = true) (hbase : base ≤ w.heap.size) (hn : n ≤ 100000) (hl : bs.length ≤ 1000) :
    Calls Tryd.prog 30 #[.pointer (some ⟨K, 0, none⟩), .pointer (some ⟨b, 0, none⟩)] w fun e w' => e = .returned (.tuple #[]) ∧ (∃ ov', BK base w' K M ov' (n + 1) (ps ++ [(s, .slice ar s.rows.length cr)]) (bs ++ [b])) ∧ Below base w w' := by
  have HH := hide h
  have HKN := hide hk
  have HHB := hide hB
  have HHF := hide hF
  have HHD := hide hd
  obtain ⟨ao, co, rfl, _⟩ := h.row.form
  obtain ⟨m, hm⟩ : ∃ m, bs.length = m := ⟨_, rfl⟩
  have HM := hide hm
  rw [hm] at HH hl
  obtain ⟨a8, c8, w1, hr8', hF8, ho8, hv8⟩ := row_more (C := pC) (c := 1) (bytes := 8) (e := 68) Tryd.underlying65 pinfo rfl (by decide) HH.out.row b rfl (fun z hz => by rw [List.mem_singleton.1 hz]; rfl) hbase hm (by omega) (by decide)
  have hr8 : (Builtin.append_ #[65, 65] 65 #[.slice ao m co, .slice (some ⟨w.heap.size, 0, none⟩) 1 1]).run Tryd.prog (w.alloc (.cells #[.pointer (some ⟨b, 0, none⟩)] 68)) = .ok (.slice a8 (m + 1) c8) w1 := hr8'
  -- what is not of the row's type stays
  have HT1 : Hid (∀ (d : Nat) (cs : Array Value) (t : TypeId), w.heap[d]? = some (Obj.cells cs t (0, 0)) → t ≠ 68 → w1.heap[d]? = w.heap[d]?) := fun d cs t hdd ht => ho8.block d (by rcases Nat.lt_or_ge d w.heap.size with h' | h'; exact h'; rw [Array.getElem?_eq_none h'] at hdd; cases hdd) fun hmm => by
    obtain ⟨cs2, e2⟩ := HH.out.rowBlk (b := d) (by simpa using hmm)
    exact blk_ne hdd e2 ht rfl
  have HM1 : Hid (w1.heap[M]? = w.heap[M]?) := ho8.block M HH.out.map.lt fun hmm => by
    obtain ⟨cs2, e2⟩ := HH.out.rowBlk (b := M) (by simpa using hmm)
    exact HH.out.map.neB e2 rfl
  have hK1 : Box w1 K 67 #[.slice ao m co, .map (some M)] := HH.out.box.keep (HT1.out K _ _ HH.out.box (by decide))
  obtain ⟨Y, hY⟩ : ∃ x, w1.setCell ⟨K, 0, none⟩ (.slice a8 (m + 1) c8) = x := ⟨_, rfl⟩
  have hKY : Box Y K 67 #[.slice a8 (m + 1) c8, .map (some M)] := by rw [← hY]; have := hK1.set 0 (.slice a8 (m + 1) c8); simpa using this
  have HTY : Hid (∀ d, d ≠ K → Y.heap[d]? = w1.heap[d]?) := fun d hdd => by rw [← hY]; exact Deep.blk_setCell_other _ ⟨K, 0, none⟩ _ d (by dsimp only; exact hdd)
  have HKN2 : Hid (∀ (d : Nat) (cs : Array Value) (t : TypeId), w.heap[d]? = some (Obj.cells cs t (0, 0)) → t ≠ 67 → d ≠ K) := fun d cs t hdd ht => blk_ne hdd HH.out.box ht
  have HSY : Hid (Y.heap.size = w1.heap.size) := by rw [← hY]; exact Deep.nblk_setCell _ _ _
  have HMY : Hid (Y.heap[M]? = w.heap[M]?) := (HTY.out M (fun e => HH.out.map.ne HH.out.box e.symm)).trans HM1.out
  have HFY : Hid (FB pC 1 68 base Y (.slice a8 (m + 1) c8) (bs ++ [b])) := hF8.keep fun d hdd => HTY.out d (by
    obtain ⟨cs2, e2⟩ := hF8.blk (b := d) (by simpa using hdd)
    exact blk_ne e2 hK1 (by decide))
  have HBL1 : Hid (Below base w Y) := by
    have h1 : Below base w w1 := (Below.refl base w).trans (ho8.below hbase fun d hdd => (HH.out.row.own d hdd).1)
    rw [← hY]
    exact h1.setCell (p := ⟨K, 0, none⟩) HH.out.lows.1 _
  have HBY : Hid (Box Y b 38 (tsC (s, .slice ar s.rows.length cr)).toArray) := HHB.out.keep ((HTY.out b (HKN2.out b _ _ HHB.out (by decide))).trans (HT1.out b _ _ HHB.out (by decide)))
  have HKY := hide hKY
  have k0 : w.cell? ⟨K, 0, none⟩ = some (.slice ao m co) := HH.out.box.cell 0 (by simp)
  have k1 : w1.cell? ⟨K, 0, none⟩ = some (.slice ao m co) := hK1.cell 0 (by simp)
  have kf : w1.frozen? ⟨K, 0, none⟩ = false := hK1.frozen 0
  have kl : K < w1.heap.size := hK1.lt
  have HS1 : Hid (w.heap.size ≤ w1.heap.size) := ho8.size
  have HYE := hide hY
  clear h hB hF hd hk hm hr8' hF8 ho8 hv8 hK1 hKY hY
  go_enter Tryd.func30, Tryd.ntmps30
  go_upto_region 1 with (first | (at_builtin; refine wpList_app rfl _ _ 65 rfl hr8 (by first | rfl | simp [Act.eval, Act.put]) (by first | rfl | simp [Act.eval, Act.put]) ?_))
  (try rw [HYE.out])
  clear k0 k1 kf kl hr8
  obtain ⟨client, tag, query, page, state, rows, cursor⟩ := s
  dsimp only at HKN hcw
  obtain ⟨nr, hnr⟩ : ∃ q, rows.length = q := ⟨_, rfl⟩
  have HNR := hide hnr
  have KS : Hid (∀ U, Below Y.heap.size Y U → (fun U : World => U.cell? ⟨K, 1, none⟩ = some (.map (some M)) ∧ U.cell? ⟨b, 0, none⟩ = some (.int .i64 client) ∧ U.cell? ⟨b, 1, none⟩ = some (.string tag) ∧ U.cell? ⟨b, 2, none⟩ = some (.string query) ∧ U.cell? ⟨b, 3, none⟩ = some (.int .i64 page) ∧ U.cell? ⟨b, 4, none⟩ = some (.int .i64 state) ∧ U.cell? ⟨b, 5, none⟩ = some (.slice ar nr cr) ∧ U.cell? ⟨b, 6, none⟩ = some (.int .i64 cursor)) U) := fun U hU => by
    have o1 := HKY.out.below hU
    have o2 := HBY.out.below hU
    dsimp only at o2
    rw [HNR.out] at o2
    exact ⟨o1.cell 1 (by simp), o2.cell 0 (by simp [tsC]), o2.cell 1 (by simp [tsC]), o2.cell 2 (by simp [tsC]), o2.cell 3 (by simp [tsC]), o2.cell 4 (by simp [tsC]), o2.cell 5 (by simp [tsC]), o2.cell 6 (by simp [tsC])⟩
  obtain ⟨D, hDe⟩ : ∃ D, Y.drew = D := ⟨_, rfl⟩
  have hD : Below Y.heap.size Y D := by rw [← hDe]; exact (Below.refl _ _).drew
  have hSd : (fun U : World => U.cell? ⟨K, 1, none⟩ = some (.map (some M)) ∧ U.cell? ⟨b, 0, none⟩ = some (.int .i64 client) ∧ U.cell? ⟨b, 1, none⟩ = some (.string tag) ∧ U.cell? ⟨b, 2, none⟩ = some (.string query) ∧ U.cell? ⟨b, 3, none⟩ = some (.int .i64 page) ∧ U.cell? ⟨b, 4, none⟩ = some (.int .i64 state) ∧ U.cell? ⟨b, 5, none⟩ = some (.slice ar nr cr) ∧ U.cell? ⟨b, 6, none⟩ = some (.int .i64 cursor)) D := KS.out D hD
  have HKEY := hide (skey_any ⟨client, tag, query, page, state, rows, cursor⟩ ar nr cr D)
  unfold sessV keyV at HKEY
  dsimp only at HKEY
  have HMF : Hid (∀ U, Below Y.heap.size Y U → MapF U M n (keyF ps bs)) := fun U hU => HH.out.map.keep ((hU.block M (by have := HH.out.map.lt; have := HS1.out; have := HSY.out; omega)).trans HMY.out)
  refine wp_region_two (fun U : World => U.cell? ⟨K, 1, none⟩ = some (.map (some M)) ∧ U.cell? ⟨b, 0, none⟩ = some (.int .i64 client) ∧ U.cell? ⟨b, 1, none⟩ = some (.string tag) ∧ U.cell? ⟨b, 2, none⟩ = some (.string query) ∧ U.cell? ⟨b, 3, none⟩ = some (.int .i64 page) ∧ U.cell? ⟨b, 4, none⟩ = some (.int .i64 state) ∧ U.cell? ⟨b, 5, none⟩ = some (.slice ar nr cr) ∧ U.cell? ⟨b, 6, none⟩ = some (.int .i64 cursor)) 9 (by kernel_rfl) ?_
  rw [hDe]
  clear hDe
  refine wpTwo_take (i := 0) (some 14) (v := ?v0_1) rfl rfl (by kernel_rfl) (by kernel_rfl) (by kernel_rfl) (by kernel_rfl) (fun _ _ _ h => h) hSd (Or.inl ⟨by rfl, ?hy0_1⟩) ?rest0_1
  case hy0_1 => (intro w hSw; (try dsimp only at hSw); go_simp; try with_reducible rfl)
  try simp only [Act.put, List.setIfInBounds_toArray, List.set_cons_zero, List.set_cons_succ]
  refine wpTwo_take (i := 1) (some 15) (v := ?v1_1) rfl rfl (by kernel_rfl) (by kernel_rfl) (by kernel_rfl) (by kernel_rfl) (fun _ _ _ h => h) hSd (Or.inl ⟨by rfl, ?hy1_1⟩) ?rest1_1
  case hy1_1 => (intro w hSw; (try dsimp only at hSw); go_simp; try with_reducible rfl)
  try simp only [Act.put, List.setIfInBounds_toArray, List.set_cons_zero, List.set_cons_succ]
  refine wpTwo_take (i := 2) (some 16) (v := ?v2_1) rfl rfl (by kernel_rfl) (by kernel_rfl) (by kernel_rfl) (by kernel_rfl) (fun _ _ _ h => h) hSd (Or.inl ⟨by rfl, ?hy2_1⟩) ?rest2_1
  case hy2_1 => (intro w hSw; (try dsimp only at hSw); go_simp; try with_reducible rfl)
  try simp only [Act.put, List.setIfInBounds_toArray, List.set_cons_zero, List.set_cons_succ]
  refine wpTwo_take (i := 3) (some 17) (v := ?v3_1) rfl rfl (by kernel_rfl) (by kernel_rfl) (by kernel_rfl) (by kernel_rfl) (fun _ _ _ h => h) hSd (Or.inl ⟨by rfl, ?hy3_1⟩) ?rest3_1
  case hy3_1 => (intro w hSw; (try dsimp only at hSw); go_simp; try with_reducible rfl)
  try simp only [Act.put, List.setIfInBounds_toArray, List.set_cons_zero, List.set_cons_succ]
  refine wpTwo_take (i := 4) (some 18) (v := ?v4_1) rfl rfl (by kernel_rfl) (by kernel_rfl) (by kernel_rfl) (by kernel_rfl) (fun _ _ _ h => h) hSd (Or.inl ⟨by rfl, ?hy4_1⟩) ?rest4_1
  case hy4_1 => (intro w hSw; (try dsimp only at hSw); go_simp; try with_reducible rfl)
  try simp only [Act.put, List.setIfInBounds_toArray, List.set_cons_zero, List.set_cons_succ]
  refine wpTwo_take (i := 5) (some 19) (v := ?v5_1) rfl rfl (by kernel_rfl) (by kernel_rfl) (by kernel_rfl) (by kernel_rfl) (fun _ _ _ h => h) hSd (Or.inl ⟨by rfl, ?hy5_1⟩) ?rest5_1
  case hy5_1 => (intro w hSw; (try dsimp only at hSw); go_simp; try with_reducible rfl)
  try simp only [Act.put, List.setIfInBounds_toArray, List.set_cons_zero, List.set_cons_succ]
  refine wpTwo_take (i := 6) (some 20) (v := ?v6_1) rfl rfl (by kernel_rfl) (by kernel_rfl) (by kernel_rfl) (by kernel_rfl) (fun _ _ _ h => h) hSd (Or.inl ⟨by rfl, ?hy6_1⟩) ?rest6_1
  case hy6_1 => (intro w hSw; (try dsimp only at hSw); go_simp; try with_reducible rfl)
  try simp only [Act.put, List.setIfInBounds_toArray, List.set_cons_zero, List.set_cons_succ]
  refine wpTwo_take (i := 8) (some 22) (v := ?v8_1) rfl rfl (by kernel_rfl) (by kernel_rfl) (by kernel_rfl) (by kernel_rfl) (fun _ _ _ h => h) hSd (Or.inl ⟨by rfl, ?hy8_1⟩) ?rest8_1
  case hy8_1 => (intro w hSw; (try dsimp only at hSw); go_simp; try with_reducible rfl)
  try simp only [Act.put, List.setIfInBounds_toArray, List.set_cons_zero, List.set_cons_succ]
  refine wpTwo_one (j := 7) (by kernel_rfl) rfl (fun K2 hK => ?_)
  go_simp
  refine HKEY.out.mono ?_
  rintro e U ⟨rfl, hbU⟩
  dsimp only
  have hUY : Below Y.heap.size Y U := bjoin hbU hD
  refine hK.out _ _ (fun _ => KS.out _ hUY) ?_
  clear hK K2
  try simp only [Act.put, List.setIfInBounds_toArray, List.set_cons_zero, List.set_cons_succ]
  obtain ⟨w9, hr9, hm9, ho9⟩ := (HMF.out U hUY).puts (by omega) client tag b hcw hs.1
  have hmU := HMF.out U hUY
  refine wpTwo_one (j := 9) (by kernel_rfl) rfl (fun K2 hK => ?_)
  go_simp
  refine hK.out _ _ (fun h => absurd h (by decide)) ?_
  clear hK K2
  refine wpTwo_done (by kernel_rfl) ?_ _
  have HT9 : Hid (∀ (d : Nat) (cs : Array Value) (t : TypeId), w.heap[d]? = some (Obj.cells cs t (0, 0)) → t ≠ 68 → t ≠ 67 → w9.heap[d]? = w.heap[d]?) := fun d cs t hdd h1 h2 => by
    have hdl : d < w.heap.size := by rcases Nat.lt_or_ge d w.heap.size with h' | h'; exact h'; rw [Array.getElem?_eq_none h'] at hdd; cases hdd
    have e1 : Y.heap[d]? = w.heap[d]? := (HTY.out d (HKN2.out d _ _ hdd h2)).trans (HT1.out d _ _ hdd h1)
    have hdY : d < Y.heap.size := by have := HS1.out; have := HSY.out; omega
    have e2 : U.heap[d]? = w.heap[d]? := (hUY.block d hdY).trans e1
    rw [ho9.block d (Nat.lt_of_lt_of_le hdY hUY.size) (by simp; exact hmU.neB (by rw [e2]; exact hdd)), e2]
  have HFIN : Hid ((∃ ov', BK base w9 K M ov' (n + 1) (ps ++ [(⟨client, tag, query, page, state, rows, cursor⟩, .slice ar rows.length cr)]) (bs ++ [b])) ∧ Below base w w9) := by
    have hbl : Below base w w9 := by
      have h1 : Below base w U := HBL1.out.trans (hUY.mono (by have := HBL1.out.size; omega))
      exact h1.trans (ho9.below (by have := h1.size; omega) fun d hdd => by rw [List.mem_singleton.1 hdd]; exact HH.out.lows.2)
    have hKU := HKY.out.below hUY
    have hFU := HFY.out.below hUY
    refine ⟨⟨.slice a8 (m + 1) c8, ?_⟩, hbl⟩
    refine ⟨hKU.only ho9 (by simp; exact hmU.ne hKU), hFU.only ho9 (fun d hdd hmm => ?_), ?_, by rw [List.length_append, List.length_append, HH.out.len]; rfl, fun i h1 h2 => ?_, fun d hdd => ?_, ?_, fun p hp => ?_, nd_snoc HH.out.nd HHD.out, HH.out.lows⟩
    · obtain ⟨cs2, e2⟩ := hFU.blk (b := d) (by simpa using hdd)
      exact hmU.neB e2 (List.mem_singleton.1 hmm)
    · rw [keyF_snoc HH.out.len _ b HKN.out]
      exact hm9
    · by_cases hi : i < ps.length
      · have hi2 : i < bs.length := by rw [HH.out.len]; exact hi
        rw [List.getElem_append_left hi2, List.getElem_append_left hi]
        have hb0 := HH.out.ses i hi hi2
        exact hb0.keep (HT9.out _ _ _ hb0 (by decide) (by decide))
      · have e1 : i = ps.length := by rw [List.length_append, List.length_singleton] at h1; omega
        subst e1
        rw [List.getElem_append_right (by rw [HH.out.len]; exact Nat.le_refl _), List.getElem_append_right (Nat.le_refl _)]
        simp only [HH.out.len, Nat.sub_self, List.getElem_cons_zero]
        exact HHB.out.keep (HT9.out _ _ _ HHB.out (by decide) (by decide))
    · rcases List.mem_append.1 hdd with hdd | hdd
      · exact HH.out.lob d hdd
      · rw [List.mem_singleton.1 hdd]; exact hbb
    · refine List.nodup_append.2 ⟨HH.out.nb, by simp, fun x hx y hy e => ?_⟩
      rw [List.mem_singleton.1 hy] at e
      exact hnb (e ▸ hx)
    · rcases List.mem_append.1 hp with hp | hp
      · refine ⟨(HH.out.els p hp).1, (HH.out.els p hp).2.keep fun d hdd => ?_⟩
        obtain ⟨cs2, e2⟩ := (HH.out.els p hp).2.blk (b := d) (by simpa using hdd)
        exact HT9.out d _ _ e2 (by decide) (by decide)
      · rw [List.mem_singleton.1 hp]
        refine ⟨hs, HHF.out.keep fun d hdd => ?_⟩
        obtain ⟨cs2, e2⟩ := HHF.out.blk (b := d) (by simpa using hdd)
        exact HT9.out d _ _ e2 (by decide) (by decide)
  clear hSd hD hr9 hm9 ho9 hmU hUY hbU
  have hres : ∀ (tmps : Array Value) (W : World), (results Tryd.f30 tmps).run Tryd.prog W = .ok (.tuple #[]) W := fun tmps W => by simp [results, Tryd.results30, go_sem]
  first
  | exact bodyPost_end (hres _ _) rfl ⟨rfl, HFIN.out.1, HFIN.out.2⟩
  | (go_wp2_with fail; exact bodyPost_end (hres _ _) rfl ⟨rfl, HFIN.out.1, HFIN.out.2⟩)
end Go.Proofs.YtpmnepalchgcbaaDoor.Msg
