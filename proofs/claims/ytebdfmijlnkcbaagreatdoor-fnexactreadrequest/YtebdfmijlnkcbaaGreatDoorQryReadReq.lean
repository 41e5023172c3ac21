import Derived.Test.YtebdfmijlnkcbaaGreatDoorQryReadI
namespace Go.Proofs.YtebdfmijlnkcbaaGreatDoor.Msg
open Go.ChangeShapes Go.WideShapes Go.ChangeAt Go.RowKit
set_option linter.unusedVariables false
set_option linter.unusedSimpArgs false

/-- the handle of the type error, as errors.As reads it -/
def ErrT (w : World) : Prop := w.cell? ⟨0, 0, none⟩ = some (.iface 97 (.agg #[.pointer (some ⟨6, 45, none⟩)]))
theorem ErrT.kept {w w' : World} (h : ErrT w) (hb : Below w.heap.size w w') : ErrT w' := by
  unfold ErrT at h ⊢
  rw [hb.cell (p := ⟨0, 0, none⟩) (lt_of_cell h)]
  exact h
def ansV (p : Req × Int) : Value := .tuple #[reqV p.1, .int .i64 p.2]
theorem ret_ans {a b : Req × Int} (h : a = b) : Ending.returned (ansV a) = .returned (ansV b) := by rw [h]
/-- ReadRequest of a message, num the number of a page's size -/
def readM (num : List UInt8 → Int) (xs : List Seg) : Req × Int :=
  readOf (getFrom xs ⟨#[77, 83, 72]⟩ 9 1) (getFrom xs ⟨#[77, 83, 72]⟩ 10 1) (getFrom xs ⟨#[77, 83, 72]⟩ 12 1) (getFrom xs ⟨#[81, 73, 68]⟩ 1 1) (getFrom xs ⟨#[81, 80, 68]⟩ 2 1) (getFrom xs ⟨#[81, 80, 68]⟩ 3 1) (getFrom xs ⟨#[68, 83, 67]⟩ 1 1) (getFrom xs ⟨#[82, 67, 80]⟩ 2 1) (num (getFrom xs ⟨#[82, 67, 80]⟩ 2 1).data.toList)
theorem readM_same (xs : List Seg) : readM numS xs = readM numI xs := readOf_same _ _ _ _ _ _ _ _

theorem cellSame' {w w' : World} {b o : Nat} (h : w'.heap[b]? = w.heap[b]?) : w'.cell? ⟨b, o, none⟩ = w.cell? ⟨b, o, none⟩ := World.cell?_of_block h
theorem set1 (W : World) (b o d : Nat) (a : Value) (h : d ≠ b) : (W.setCell ⟨b, o, none⟩ a).heap[d]? = W.heap[d]? := Deep.blk_setCell_other _ _ _ _ (by first | exact h | exact h.symm)
theorem set6 (W : World) (b d : Nat) (a0 a1 a2 a3 a4 a5 : Value) (h : d ≠ b) : ((((((W.setCell ⟨b, 0, none⟩ a0).setCell ⟨b, 1, none⟩ a1).setCell ⟨b, 2, none⟩ a2).setCell ⟨b, 3, none⟩ a3).setCell ⟨b, 4, none⟩ a4).setCell ⟨b, 5, none⟩ a5).heap[d]? = W.heap[d]? :=
  (set1 _ _ _ _ _ h).trans ((set1 _ _ _ _ _ h).trans ((set1 _ _ _ _ _ h).trans ((set1 _ _ _ _ _ h).trans ((set1 _ _ _ _ _ h).trans (set1 _ _ _ _ _ h)))))
theorem set6_cell (W : World) (b d o : Nat) (a0 a1 a2 a3 a4 a5 : Value) (h : d ≠ b) : ((((((W.setCell ⟨b, 0, none⟩ a0).setCell ⟨b, 1, none⟩ a1).setCell ⟨b, 2, none⟩ a2).setCell ⟨b, 3, none⟩ a3).setCell ⟨b, 4, none⟩ a4).setCell ⟨b, 5, none⟩ a5).cell? ⟨d, o, none⟩ = W.cell? ⟨d, o, none⟩ := cellSame' (set6 W b d a0 a1 a2 a3 a4 a5 h)
theorem set6_below {w W : World} {B : Nat} (g3 : Below B w W) (b : Nat) (hb : B ≤ b) (a0 a1 a2 a3 a4 a5 : Value) : Below B w ((((((W.setCell ⟨b, 0, none⟩ a0).setCell ⟨b, 1, none⟩ a1).setCell ⟨b, 2, none⟩ a2).setCell ⟨b, 3, none⟩ a3).setCell ⟨b, 4, none⟩ a4).setCell ⟨b, 5, none⟩ a5) :=
  ((((((g3.setCell (p := ⟨b, 0, none⟩) hb a0).setCell (p := ⟨b, 1, none⟩) hb a1).setCell (p := ⟨b, 2, none⟩) hb a2).setCell (p := ⟨b, 3, none⟩) hb a3).setCell (p := ⟨b, 4, none⟩) hb a4).setCell (p := ⟨b, 5, none⟩) hb a5)

set_option maxRecDepth 100000 in
set_option maxHeartbeats 800000 in
theorem readRequest_any (xs : List Seg) (v : Value) (w : World) (hG : Got w v xs) (hsz : msgSz xs ≤ 1048576) (hE : Env w) (hT : ErrT w) :
    Calls Tryz.prog 7 #[.agg #[v]] w fun e w' => e = .returned (ansV (readM numI xs)) ∧ Below w.heap.size w w' := by
  have hb00 := (Below.refl w.heap.size w).alloc (Nat.le_refl _) (Obj.cells #[v] 32)
  have hb0 := hb00.alloc hb00.size (Obj.cells #[.int .i64 0, .string ⟨#[]⟩, .string ⟨#[]⟩, .string ⟨#[]⟩, .int .i64 0, .string ⟨#[]⟩] 27)
  obtain ⟨w1, hw1⟩ : ∃ w1, (w.alloc (Obj.cells #[v] 32)).alloc (Obj.cells #[.int .i64 0, .string ⟨#[]⟩, .string ⟨#[]⟩, .string ⟨#[]⟩, .int .i64 0, .string ⟨#[]⟩] 27) = w1 := ⟨_, rfl⟩
  rw [hw1] at hb0
  have hcv : w1.cell? ⟨w.heap.size, 0, none⟩ = some v := by rw [← hw1, World.cell?_alloc_lt _ _ ⟨w.heap.size, 0, none⟩ (by simp)]; simp
  have hs1 : w1.heap.size = w.heap.size + 1 + 1 := by rw [← hw1]; simp
  have k0 : w1.cell? ⟨w.heap.size + 1, 0, none⟩ = some (.int .i64 0) := by rw [← hw1]; simp
  have k1 : w1.cell? ⟨w.heap.size + 1, 1, none⟩ = some (.string ⟨#[]⟩) := by rw [← hw1]; simp
  have k2 : w1.cell? ⟨w.heap.size + 1, 2, none⟩ = some (.string ⟨#[]⟩) := by rw [← hw1]; simp
  have k3 : w1.cell? ⟨w.heap.size + 1, 3, none⟩ = some (.string ⟨#[]⟩) := by rw [← hw1]; simp
  have k4 : w1.cell? ⟨w.heap.size + 1, 4, none⟩ = some (.int .i64 0) := by rw [← hw1]; simp
  have k5 : w1.cell? ⟨w.heap.size + 1, 5, none⟩ = some (.string ⟨#[]⟩) := by rw [← hw1]; simp
  have kf : ∀ i, w1.frozen? ⟨w.heap.size + 1, i, none⟩ = false := fun i => by rw [← hw1]; simp
  have HBOX : Hid (∀ W, Below w1.heap.size w1 W → W.cell? ⟨w.heap.size + 1, 0, none⟩ = some (.int .i64 0) ∧ W.cell? ⟨w.heap.size + 1, 1, none⟩ = some (.string ⟨#[]⟩) ∧ W.cell? ⟨w.heap.size + 1, 2, none⟩ = some (.string ⟨#[]⟩) ∧ W.cell? ⟨w.heap.size + 1, 3, none⟩ = some (.string ⟨#[]⟩) ∧ W.cell? ⟨w.heap.size + 1, 4, none⟩ = some (.int .i64 0) ∧ W.cell? ⟨w.heap.size + 1, 5, none⟩ = some (.string ⟨#[]⟩) ∧ (∀ i, W.frozen? ⟨w.heap.size + 1, i, none⟩ = false) ∧ w.heap.size + 1 < W.heap.size) := fun W h => by
    have hl : w.heap.size + 1 < w1.heap.size := by omega
    refine ⟨?_, ?_, ?_, ?_, ?_, ?_, fun i => ?_, by have := h.size; omega⟩
    · rw [h.cell (p := ⟨w.heap.size + 1, 0, none⟩) hl]; exact k0
    · rw [h.cell (p := ⟨w.heap.size + 1, 1, none⟩) hl]; exact k1
    · rw [h.cell (p := ⟨w.heap.size + 1, 2, none⟩) hl]; exact k2
    · rw [h.cell (p := ⟨w.heap.size + 1, 3, none⟩) hl]; exact k3
    · rw [h.cell (p := ⟨w.heap.size + 1, 4, none⟩) hl]; exact k4
    · rw [h.cell (p := ⟨w.heap.size + 1, 5, none⟩) hl]; exact k5
    · rw [h.frozen (p := ⟨w.heap.size + 1, i, none⟩) hl]; exact kf i
  clear k0 k1 k2 k3 k4 k5 kf hb00
  have HG := hide (hG.kept hb0)
  have HB0 := hide hb0
  have HT := hide (hT.kept hb0)
  have hlt := lt_of_cell hcv
  have HOLD : Hid (∀ W, Below w1.heap.size w1 W → W.cell? ⟨w.heap.size, 0, none⟩ = some v) := fun W h => by rw [h.cell (p := ⟨w.heap.size, 0, none⟩) hlt]; exact hcv
  have HKC : Hid (∀ W, Below w1.heap.size w1 W → Calls Tryz.prog 19 #[.agg #[v]] W fun e w' => e = .returned (.string (known (getFrom xs ⟨#[77, 83, 72]⟩ 10 1))) ∧ Below W.heap.size W w') := fun W hb => knownControl_any xs v W (HG.out.kept hb) hsz
  have HRL := hide (readLetter_any xs v w1 HG.out hsz (hE.kept hb0))
  unfold readM
  unfold pageI at HRL
  obtain ⟨kind, h1⟩ : ∃ z, getFrom xs ⟨#[77, 83, 72]⟩ 9 1 = z := ⟨_, rfl⟩
  obtain ⟨ct, h2⟩ : ∃ z, getFrom xs ⟨#[77, 83, 72]⟩ 10 1 = z := ⟨_, rfl⟩
  obtain ⟨ver, h3⟩ : ∃ z, getFrom xs ⟨#[77, 83, 72]⟩ 12 1 = z := ⟨_, rfl⟩
  obtain ⟨idt, h4⟩ : ∃ z, getFrom xs ⟨#[81, 73, 68]⟩ 1 1 = z := ⟨_, rfl⟩
  obtain ⟨tag, h5⟩ : ∃ z, getFrom xs ⟨#[81, 80, 68]⟩ 2 1 = z := ⟨_, rfl⟩
  obtain ⟨query, h6⟩ : ∃ z, getFrom xs ⟨#[81, 80, 68]⟩ 3 1 = z := ⟨_, rfl⟩
  obtain ⟨pointer, h7⟩ : ∃ z, getFrom xs ⟨#[68, 83, 67]⟩ 1 1 = z := ⟨_, rfl⟩
  obtain ⟨size, h8⟩ : ∃ z, getFrom xs ⟨#[82, 67, 80]⟩ 2 1 = z := ⟨_, rfl⟩
  rw [h2] at HKC
  rw [h1, h2, h3, h4, h5, h6, h7, h8] at HRL ⊢
  generalize numI size.data.toList = num at HRL ⊢
  have HS : Hid (∀ c, (readL kind ct ver idt tag query pointer (if size.toList == [] then 10 else num)).2 = some c → readOf kind ct ver idt tag query pointer size num = (told ct, c)) := fun c h => readL_some h
  have HN := hide (@readL_none kind ct ver idt tag query pointer size num)
  clear h1 h2 h3 h4 h5 h6 h7 h8 hG hE hb0 hT
  generalize hpg : (if size.toList == [] then (10 : Int) else num) = page at HRL HS HN
  clear hpg
  obtain ⟨lv, hlv⟩ : ∃ lv, (readL kind ct ver idt tag query pointer page).1 = lv := ⟨_, rfl⟩
  have r1 := methReqC
  have r2 := methReqX
  have r3 := methReqN
  have HTOLD : Hid (reqV (told ct) = .agg #[.int .i64 0, .string (known ct), .string ⟨#[]⟩, .string ⟨#[]⟩, .int .i64 0, .string ⟨#[]⟩]) := rfl
  cases hlk : (readL kind ct ver idt tag query pointer page).2 with
  | some c =>
    have HX := hide (HS.out c hlk)
    have HP : Hid (pairV (readL kind ct ver idt tag query pointer page) = .tuple #[lv, .iface 49 (.agg #[.int .i64 c])]) := by unfold pairV; rw [hlv, hlk]; trivial
    rw [HP.out] at HRL
    clear HS HN hlv hlk
    go_enter Tryz.func7, Tryz.ntmps7
    go_wp2_with fail
    refine HRL.out.mono ?_
    rintro e w2 ⟨rfl, hb2⟩
    have HB2 := hide hb2
    have hb3 := hb2.alloc hb2.size (Obj.cells #[.int .i64 0] 49)
    have hlk0 : (w2.alloc (Obj.cells #[.int .i64 0] 49)).cell? ⟨w2.heap.size, 0, none⟩ = some (.int .i64 0) := by simp
    have HAS := hide (as_hit c ⟨w2.heap.size, 0, none⟩ (.int .i64 0) (w2.alloc (Obj.cells #[.int .i64 0] 49)) (HT.out.kept hb3) hlk0 (by simp))
    have HB3 := hide hb3
    have HLK := hide hlk0
    have hs2 := hb2.size
    clear hb3 hlk0 hb2
    go_wp2_with fail
    refine HAS.out.mono ?_
    rintro e w3' ⟨rfl, w3, hb3', rfl⟩
    have hs3 : w2.heap.size < w3.heap.size := by have := hb3'.size; simp at this; omega
    have hl3 : w3.cell? ⟨w2.heap.size, 0, none⟩ = some (.int .i64 0) := by rw [hb3'.cell (p := ⟨w2.heap.size, 0, none⟩) (by simp)]; exact HLK.out
    have hB3 : Below w1.heap.size w1 (w3.setCell ⟨w2.heap.size, 0, none⟩ (.int .i64 c)) := (bjoin hb3' HB3.out).setCell (p := ⟨w2.heap.size, 0, none⟩) hs2 _
    have hc3 : (w3.setCell ⟨w2.heap.size, 0, none⟩ (.int .i64 c)).cell? ⟨w2.heap.size, 0, none⟩ = some (.int .i64 c) := World.cell?_setCell_same _ _ _ hl3
    obtain ⟨W3, hW3⟩ : ∃ W3, w3.setCell ⟨w2.heap.size, 0, none⟩ (.int .i64 c) = W3 := ⟨_, rfl⟩
    rw [hW3] at hB3 hc3 ⊢
    have hs4 : w2.heap.size < W3.heap.size := by rw [← hW3, Deep.nblk_setCell]; exact hs3
    have KEEP : Hid (∀ X, Below W3.heap.size W3 X → X.cell? ⟨w.heap.size, 0, none⟩ = some v ∧ X.cell? ⟨w2.heap.size, 0, none⟩ = some (.int .i64 c) ∧ Below w.heap.size w X) := fun X h => ⟨HOLD.out _ (bjoin h hB3), by rw [h.cell (p := ⟨w2.heap.size, 0, none⟩) hs4]; exact hc3, bjoin h (bjoin hB3 HB0.out)⟩
    have HST : Hid (∀ W, Below W3.heap.size W3 W → ∀ a0 a1 a2 a3 a4 a5, ((((((W.setCell ⟨w.heap.size + 1, 0, none⟩ a0).setCell ⟨w.heap.size + 1, 1, none⟩ a1).setCell ⟨w.heap.size + 1, 2, none⟩ a2).setCell ⟨w.heap.size + 1, 3, none⟩ a3).setCell ⟨w.heap.size + 1, 4, none⟩ a4).setCell ⟨w.heap.size + 1, 5, none⟩ a5).cell? ⟨w.heap.size, 0, none⟩ = some v ∧ ((((((W.setCell ⟨w.heap.size + 1, 0, none⟩ a0).setCell ⟨w.heap.size + 1, 1, none⟩ a1).setCell ⟨w.heap.size + 1, 2, none⟩ a2).setCell ⟨w.heap.size + 1, 3, none⟩ a3).setCell ⟨w.heap.size + 1, 4, none⟩ a4).setCell ⟨w.heap.size + 1, 5, none⟩ a5).cell? ⟨w2.heap.size, 0, none⟩ = some (.int .i64 c) ∧ Below w.heap.size w ((((((W.setCell ⟨w.heap.size + 1, 0, none⟩ a0).setCell ⟨w.heap.size + 1, 1, none⟩ a1).setCell ⟨w.heap.size + 1, 2, none⟩ a2).setCell ⟨w.heap.size + 1, 3, none⟩ a3).setCell ⟨w.heap.size + 1, 4, none⟩ a4).setCell ⟨w.heap.size + 1, 5, none⟩ a5)) := fun W h a0 a1 a2 a3 a4 a5 => by
      obtain ⟨g1, g2, g3⟩ := KEEP.out W h
      have n1 : w.heap.size ≠ w.heap.size + 1 := by omega
      have n2 : w2.heap.size ≠ w.heap.size + 1 := by omega
      have n3 : w.heap.size ≤ w.heap.size + 1 := by omega
      exact ⟨(set6_cell W _ _ 0 a0 a1 a2 a3 a4 a5 n1).trans g1, (set6_cell W _ _ 0 a0 a1 a2 a3 a4 a5 n2).trans g2, set6_below g3 _ n3 a0 a1 a2 a3 a4 a5⟩
    have hd := (Below.refl W3.heap.size W3).drew
    have HB4 := hide hB3
    have hm3 := HOLD.out _ hB3
    clear hB3 hb3' hl3 hW3 HAS HRL HB3 HLK
    go_wp2_with fail
    go_region_held3 (fun X => X.cell? ⟨w.heap.size, 0, none⟩ = some v ∧ X.cell? ⟨w2.heap.size, 0, none⟩ = some (.int .i64 c) ∧ Below w.heap.size w X)
      (first | with_reducible exact KEEP.out _ hd | with_reducible exact KEEP.out _ hb4 | with_reducible exact HST.out _ hb4 _ _ _ _ _ _)
      (first | (go_at_call 19; refine (HKC.out _ (bjoin hd HB4.out)).mono ?_; rintro e w4 ⟨rfl, hb4'⟩; have hb4 := bjoin hb4' hd; obtain ⟨k0, k1, k2, k3, k4, k5, kf, kl⟩ := HBOX.out _ (bjoin hb4 HB4.out)))
    go_wp2_with fail
    exact bodyPost_ret (v := ansV (told ct, c)) (by simp [results, Tryz.results7, go_sem, ansV, reqV, told, known, k0, k1, k2, k3, k4, k5, kl]) rfl ⟨ret_ans HX.out.symm, (HST.out _ hb4 _ _ _ _ _ _).2.2⟩
  | none =>
    rcases HN.out hlk with ⟨hV, hR⟩ | ⟨hV, hR⟩ | ⟨hV, hR⟩
    · have HP : Hid (pairV (readL kind ct ver idt tag query pointer page) = .tuple #[.iface 90 (.agg #[.string ct, .string idt]), .nilIface]) := by unfold pairV; rw [hV, hlk]; trivial
      rw [HP.out] at HRL
      have HX := hide hR
      clear hV hR hlk hlv HP
      go_enter Tryz.func7, Tryz.ntmps7
      go_wp2_with fail
      refine HRL.out.mono ?_
      rintro e w2 ⟨rfl, hb2⟩
      have HB2 := hide (hb2.alloc hb2.size (Obj.cells #[.int .i64 0] 49))
      clear hb2 HRL
      go_wp2_with (first | (go_at_call 18; refine (as_nil _ _).mono ?_; rintro e w3 ⟨rfl, rfl⟩) | (go_at_call 112; refine (cancelRequest_any ct idt _).mono ?_; rintro e w4 ⟨rfl, hb4'⟩; dsimp only [reqV]; have hb4 := bjoin hb4' HB2.out; obtain ⟨k0, k1, k2, k3, k4, k5, kf, kl⟩ := HBOX.out _ hb4))
      exact bodyPost_ret (v := ansV (⟨3, ct, idt, ⟨#[]⟩, 0, ⟨#[]⟩⟩, 0)) (by simp [results, Tryz.results7, go_sem, ansV, reqV, told, known, k0, k1, k2, k3, k4, k5, kl]) rfl ⟨ret_ans HX.out.symm, set6_below (bjoin hb4 HB0.out) _ (Nat.le_succ _) _ _ _ _ _ _⟩
    · have HP : Hid (pairV (readL kind ct ver idt tag query pointer page) = .tuple #[.iface 92 (.agg #[.string ct, .string tag, .string query, .string pointer]), .nilIface]) := by unfold pairV; rw [hV, hlk]; trivial
      rw [HP.out] at HRL
      have HX := hide hR
      clear hV hR hlk hlv HP
      go_enter Tryz.func7, Tryz.ntmps7
      go_wp2_with fail
      refine HRL.out.mono ?_
      rintro e w2 ⟨rfl, hb2⟩
      have HB2 := hide (hb2.alloc hb2.size (Obj.cells #[.int .i64 0] 49))
      clear hb2 HRL
      go_wp2_with (first | (go_at_call 18; refine (as_nil _ _).mono ?_; rintro e w3 ⟨rfl, rfl⟩) | (go_at_call 116; refine (nextRequest_any ct tag query pointer _).mono ?_; rintro e w4 ⟨rfl, hb4'⟩; dsimp only [reqV]; have hb4 := bjoin hb4' HB2.out; obtain ⟨k0, k1, k2, k3, k4, k5, kf, kl⟩ := HBOX.out _ hb4))
      exact bodyPost_ret (v := ansV (⟨2, ct, tag, query, 0, pointer⟩, 0)) (by simp [results, Tryz.results7, go_sem, ansV, reqV, told, known, k0, k1, k2, k3, k4, k5, kl]) rfl ⟨ret_ans HX.out.symm, set6_below (bjoin hb4 HB0.out) _ (Nat.le_succ _) _ _ _ _ _ _⟩
    · have HP : Hid (pairV (readL kind ct ver idt tag query pointer page) = .tuple #[.iface 95 (.agg #[.string ct, .string tag, .string query, .int .i64 page]), .nilIface]) := by unfold pairV; rw [hV, hlk]; trivial
      rw [HP.out] at HRL
      have HX := hide hR
      clear hV hR hlk hlv HP
      go_enter Tryz.func7, Tryz.ntmps7
      go_wp2_with fail
      refine HRL.out.mono ?_
      rintro e w2 ⟨rfl, hb2⟩
      have HB2 := hide (hb2.alloc hb2.size (Obj.cells #[.int .i64 0] 49))
      clear hb2 HRL
      go_wp2_with (first | (go_at_call 18; refine (as_nil _ _).mono ?_; rintro e w3 ⟨rfl, rfl⟩) | (go_at_call 120; refine (newRequest_any ct tag query page _).mono ?_; rintro e w4 ⟨rfl, hb4'⟩; dsimp only [reqV]; have hb4 := bjoin hb4' HB2.out; obtain ⟨k0, k1, k2, k3, k4, k5, kf, kl⟩ := HBOX.out _ hb4))
      exact bodyPost_ret (v := ansV (⟨1, ct, tag, query, page, ⟨#[]⟩⟩, 0)) (by simp [results, Tryz.results7, go_sem, ansV, reqV, told, known, k0, k1, k2, k3, k4, k5, kl]) rfl ⟨ret_ans HX.out.symm, set6_below (bjoin hb4 HB0.out) _ (Nat.le_succ _) _ _ _ _ _ _⟩
end Go.Proofs.YtebdfmijlnkcbaaGreatDoor.Msg
