import Derived.Test.YtfeccdhadgpnkaaDoorAskIwithPoolSz
import Derived.Test.YtfeccdhadgpnkaaDoorPoolSz2withPoolTo
import Derived.Test.YtfeccdhadgpnkaaDoorLawNewwithMsgOk
import Derived.Deep.DeepCutAuto
namespace Go.Proofs.YtfeccdhadgpnkaaDoor.Msg
open Go.ChangeShapes Go.WideShapes Go.ChangeAt Go.RowKit
set_option linter.unusedVariables false
set_option linter.unusedSimpArgs false

theorem serveD_len : ∀ (f : Nat) (s : Ds), (serveD f s).conns.length = s.conns.length ∧ (serveD f s).queue.length ≤ s.queue.length ∧ (serveD f s).sent.length ≤ s.sent.length + f
  | 0, s => ⟨rfl, Nat.le_refl _, Nat.le_refl _⟩
  | f + 1, s => by
    cases hf : s.free with
    | nil => rw [serveD_nofree _ _ hf]; exact ⟨rfl, Nat.le_refl _, by omega⟩
    | cons k fs =>
      cases hq : s.queue with
      | nil => rw [serveD_noqueue _ _ hq]; exact ⟨rfl, by rw [hq]; simp, by omega⟩
      | cons z qs =>
        rw [serveD_step f s hf hq]
        obtain ⟨i2, i3, i4⟩ := serveD_len f (sendP { s with free := fs, queue := qs } k z)
        refine ⟨?_, ?_, ?_⟩
        · rw [i2]; simp [sendP]
        · have e : (sendP { s with free := fs, queue := qs } k z).queue.length = qs.length := rfl
          rw [e] at i3
          simp only [List.length_cons]; omega
        · have e : (sendP { s with free := fs, queue := qs } k z).sent.length = s.sent.length + 1 := by simp [sendP]
          rw [e] at i4
          omega
theorem askP_len (x : Pl) (q : Wn) (now : Int) : (askP x q now).1.conns.length ≤ 4 ∧ (askP x q now).1.queue.length ≤ 17 ∧ (askP x q now).2.1.length ≤ 17 := by
  unfold askP
  split
  · rename_i h
    obtain ⟨g1, g2, g3, g4, g5, g6, g7⟩ := okPl_head_of h.1
    split
    · simp only; exact ⟨g6, by omega, by simp⟩
    · have hs := served ⟨x.epoch, x.next, now, x.conns, freeIdx x.conns, x.queue ++ [q], []⟩ (.inl rfl) rfl
      have e : serveA now (addQ x q) = serveA now ⟨x.epoch, x.next, x.conns, x.queue ++ [q]⟩ := rfl
      rw [e]
      simp only at hs
      rw [hs]
      obtain ⟨i2, i3, i4⟩ := serveD_len (x.queue ++ [q]).length ⟨x.epoch, x.next, now, x.conns, freeIdx x.conns, x.queue ++ [q], []⟩
      simp only [List.length_append, List.length_singleton, List.length_nil] at i2 i3 i4
      simp only [List.length_append, List.length_singleton]
      omega
  · simp [pl0]
/-- the cells of a box of zeros, handed on -/
theorem box4 {W : World} {b : Nat} {t : TypeId} (h : Box W b t #[.int .i64 0, .int .i64 0, .slice none 0 0, .slice none 0 0]) {G : Prop}
    (k : Box W b t #[.int .i64 0, .int .i64 0, .slice none 0 0, .slice none 0 0] → (W.cell? ⟨b, 0, none⟩ = some (.int .i64 0) ∧ W.cell? ⟨b, 1, none⟩ = some (.int .i64 0) ∧ W.cell? ⟨b, 2, none⟩ = some (.slice none 0 0) ∧ W.cell? ⟨b, 3, none⟩ = some (.slice none 0 0)) ∧ W.frozen? ⟨b, 0, none⟩ = false ∧ W.frozen? ⟨b, 1, none⟩ = false ∧ W.frozen? ⟨b, 2, none⟩ = false ∧ W.frozen? ⟨b, 3, none⟩ = false → G) : G := k h h.pool
theorem Box.fill {W : World} {b : Nat} {t : TypeId} {y0 y1 y2 y3 : Value} (h : Box W b t #[y0, y1, y2, y3]) (x0 x1 x2 x3 : Value) : Box ((((W.setCell ⟨b, 0, none⟩ x0).setCell ⟨b, 1, none⟩ x1).setCell ⟨b, 2, none⟩ x2).setCell ⟨b, 3, none⟩ x3) b t #[x0, x1, x2, x3] := by
  have := (((h.set 0 x0).set 1 x1).set 2 x2).set 3 x3
  simpa using this
theorem fill_only (W : World) (b : Nat) (x0 x1 x2 x3 : Value) : Only [b] W ((((W.setCell ⟨b, 0, none⟩ x0).setCell ⟨b, 1, none⟩ x1).setCell ⟨b, 2, none⟩ x2).setCell ⟨b, 3, none⟩ x3) := ((((Only.refl _ _).setCell (by simp) _).setCell (by simp) _).setCell (by simp) _).setCell (by simp) _
/-- what the law holds of the specification's answer -/
def SpecHeld (B0 : Nat) (R : Pl) (ss : List St) (W0 : World) (B : Nat) (cv qv sv : Value) (X : World) : Prop :=
  Box X B 33 #[.int .i64 R.epoch, .int .i64 R.next, cv, qv] ∧ PlAt 0 X R cv qv ∧ StsAt 0 X sv ss ∧ Below B0 W0 X ∧ B0 ≤ B
theorem SpecHeld.late {B0 : Nat} {R : Pl} {ss : List St} {W0 W5 : World} {cv qv sv : Value} (hp : PlAt 0 W5 R cv qv) (hs : StsAt 0 W5 sv ss) (hb : Below B0 W0 W5) (h0 : B0 ≤ W0.heap.size) :
    SpecHeld B0 R ss W0 W5.heap.size cv qv sv (W5.alloc (.cells #[.int .i64 R.epoch, .int .i64 R.next, cv, qv] 33)) := by
  have hb5 : Below W5.heap.size W5 (W5.alloc (.cells #[.int .i64 R.epoch, .int .i64 R.next, cv, qv] 33)) := (Below.refl _ _).alloc (Nat.le_refl _) _
  have := hb.size
  exact ⟨Box.new _ _ _, hp.below hb5, At.kept kept_flat hs hb5, hb.trans (hb5.mono (by omega)), by omega⟩
theorem SpecHeld.early {B0 : Nat} {R : Pl} {ss : List St} {W0 W5 : World} {B : Nat} {cv qv sv : Value} (hz : Box W5 B 33 #[.int .i64 0, .int .i64 0, .slice none 0 0, .slice none 0 0]) (hp : PlAt 0 W5 R cv qv) (hs : StsAt 0 W5 sv ss) (hb : Below B0 W0 W5) (h0 : B0 ≤ W0.heap.size) (hB : B0 ≤ B) :
    SpecHeld B0 R ss W0 B cv qv sv ((((W5.setCell ⟨B, 0, none⟩ (.int .i64 R.epoch)).setCell ⟨B, 1, none⟩ (.int .i64 R.next)).setCell ⟨B, 2, none⟩ cv).setCell ⟨B, 3, none⟩ qv) := by
  have h4 := four_blk W5 B (.int .i64 R.epoch) (.int .i64 R.next) cv qv
  exact ⟨hz.fill _ _ _ _, hp.off hz (Nat.le_of_eq h4.2.symm) fun d hd _ => h4.1 d hd, at_off hs hz (st_off 0) (Nat.le_of_eq h4.2.symm) fun d hd _ => h4.1 d hd, hb.trans ((fill_only W5 B _ _ _ _).below (by have := hb.size; omega) fun d hd => by simp at hd; omega), hB⟩
/-- what the law holds of the program's answer -/
def ImplHeld (R : Pl) (ss : List St) (W0 : World) (B : Nat) (cv qv sv : Value) (b1 b2 b3 : List Nat) (X : World) : Prop :=
  Box X B 33 #[.int .i64 R.epoch, .int .i64 R.next, cv, qv] ∧ PlO W0.heap.size X R cv qv b1 b2 ∧ FO stC 6 X sv ss b3 ∧ (∀ t ∈ ss, stZ t) ∧ (∀ d ∈ b3, W0.heap.size ≤ d ∧ d ∉ b1 ∧ d ∉ b2) ∧ Below W0.heap.size W0 X ∧ W0.heap.size ≤ B ∧ B ∉ b1 ∧ B ∉ b2 ∧ B ∉ b3
theorem ImplHeld.late {R : Pl} {ss : List St} {W0 W4 W5 : World} {cv qv sv : Value} (h : PoolSent R ss W4 cv qv sv W5) (hb : Below W0.heap.size W0 W4) :
    ∃ b1 b2 b3, ImplHeld R ss W0 W5.heap.size cv qv sv b1 b2 b3 (W5.alloc (.cells #[.int .i64 R.epoch, .int .i64 R.next, cv, qv] 33)) := by
  obtain ⟨b1, b2, b3, hp, hs, hz, hd, hbb⟩ := h
  have hb5 : Below W5.heap.size W5 (W5.alloc (.cells #[.int .i64 R.epoch, .int .i64 R.next, cv, qv] 33)) := (Below.refl _ _).alloc (Nat.le_refl _) _
  have h04 := hb.size
  have h45 := hbb.size
  refine ⟨b1, b2, b3, Box.new _ _ _, ⟨RowC.below hp.1 hb5, RowC.below hp.2.1 hb5, hp.2.2.1, fun d h => by have := hp.2.2.2.1 d h; omega, fun d h => by have := hp.2.2.2.2.1 d h; omega, hp.2.2.2.2.2⟩, RowC.below hs hb5, hz, fun d h => ⟨by have := (hd d h).1; omega, (hd d h).2⟩, bjoin hb5 (bjoin hbb hb), by omega, fun h => ?_, fun h => ?_, fun h => ?_⟩
  · have := RowC.lt hp.1 _ h; omega
  · have := RowC.lt hp.2.1 _ h; omega
  · have := RowC.lt hs _ h; omega
theorem ImplHeld.early {R : Pl} {ss : List St} {W0 W4 W5 : World} {B : Nat} {cv qv sv : Value} (hz0 : Box W5 B 33 #[.int .i64 0, .int .i64 0, .slice none 0 0, .slice none 0 0]) (h : PoolSent R ss W4 cv qv sv W5) (hb : Below W0.heap.size W0 W4) (hB : W0.heap.size ≤ B) (hB4 : B < W4.heap.size) :
    ∃ b1 b2 b3, ImplHeld R ss W0 B cv qv sv b1 b2 b3 ((((W5.setCell ⟨B, 0, none⟩ (.int .i64 R.epoch)).setCell ⟨B, 1, none⟩ (.int .i64 R.next)).setCell ⟨B, 2, none⟩ cv).setCell ⟨B, 3, none⟩ qv) := by
  obtain ⟨b1, b2, b3, hp, hs, hz, hd, hbb⟩ := h
  have h4 := four_blk W5 B (.int .i64 R.epoch) (.int .i64 R.next) cv qv
  have h04 := hb.size
  have h45 := hbb.size
  have n1 : B ∉ b1 := fun h => by have := hp.2.2.2.1 _ h; omega
  have n2 : B ∉ b2 := fun h => by have := hp.2.2.2.2.1 _ h; omega
  have n3 : B ∉ b3 := fun h => by have := (hd _ h).1; omega
  refine ⟨b1, b2, b3, hz0.fill _ _ _ _, ⟨RowC.kept hp.1 (Nat.le_of_eq h4.2.symm) fun d h => h4.1 d (fun e => n1 (e ▸ h)), RowC.kept hp.2.1 (Nat.le_of_eq h4.2.symm) fun d h => h4.1 d (fun e => n2 (e ▸ h)), hp.2.2.1, fun d h => by have := hp.2.2.2.1 d h; omega, fun d h => by have := hp.2.2.2.2.1 d h; omega, hp.2.2.2.2.2⟩, RowC.kept hs (Nat.le_of_eq h4.2.symm) fun d h => h4.1 d (fun e => n3 (e ▸ h)), hz, fun d h => ⟨by have := (hd d h).1; omega, (hd d h).2⟩, ?_, hB, n1, n2, n3⟩
  exact (bjoin hbb hb).trans ((fill_only W5 B _ _ _ _).below (by omega) fun d hd => by simp at hd; omega)
theorem PlO.at0 {lo : Nat} {w : World} {x : Pl} {cv qv : Value} {b1 b2 : List Nat} (h : PlO lo w x cv qv b1 b2) : PlAt 0 w x cv qv := ⟨At.mono mono_flat h.at.1 (Nat.zero_le _), At.mono mono_flat h.at.2 (Nat.zero_le _)⟩
theorem PoolSent.form {R : Pl} {ss : List St} {w w' : World} {cv qv sv : Value} (h : PoolSent R ss w cv qv sv w') : (∃ a c, cv = .slice a R.conns.length c) ∧ (∃ a c, qv = .slice a R.queue.length c) ∧ (∃ a c, sv = .slice a ss.length c) ∧ Below w.heap.size w w' := by
  obtain ⟨b1, b2, b3, hp, hs, _, _, hb⟩ := h
  exact ⟨hp.at.form.1, hp.at.form.2, RowC.form hs, hb⟩
theorem PoolSent.at0 {R : Pl} {ss : List St} {w w' : World} {cv qv sv : Value} (h : PoolSent R ss w cv qv sv w') : PlAt 0 w' R cv qv ∧ StsAt 0 w' sv ss := by
  obtain ⟨b1, b2, b3, hp, hs, hz, _, _⟩ := h
  exact ⟨hp.at0, FO.at stC_len hs (fun i hi => hz _ (List.getElem_mem hi)) (fun _ _ => Nat.zero_le _)⟩
theorem ImplHeld.sts {R : Pl} {ss : List St} {W0 : World} {B : Nat} {cv qv sv : Value} {b1 b2 b3 : List Nat} {X : World} (h : ImplHeld R ss W0 B cv qv sv b1 b2 b3 X) : StsAt 0 X sv ss := FO.at stC_len h.2.2.1 (fun i hi => h.2.2.2.1 _ (List.getElem_mem hi)) (fun _ _ => Nat.zero_le _)
/-- an answer that is held stays so where its blocks are as they were -/
theorem ImplHeld.keep {R : Pl} {ss : List St} {W0 : World} {B : Nat} {cv qv sv : Value} {b1 b2 b3 : List Nat} {X Y : World} (h : ImplHeld R ss W0 B cv qv sv b1 b2 b3 X) (hs : X.heap.size ≤ Y.heap.size) (hb : ∀ d, W0.heap.size ≤ d → d < X.heap.size → Y.heap[d]? = X.heap[d]?) (hB : Below W0.heap.size W0 Y ∨ True) :
    Box Y B 33 #[.int .i64 R.epoch, .int .i64 R.next, cv, qv] ∧ PlO W0.heap.size Y R cv qv b1 b2 ∧ FO stC 6 Y sv ss b3 ∧ StsAt 0 Y sv ss := by
  obtain ⟨h1, h2, h3, h4, h5, h6, h7, h8, h9, h10⟩ := h
  have k3 : FO stC 6 Y sv ss b3 := RowC.kept h3 hs fun d hd => hb d (h5 d hd).1 (RowC.lt h3 d hd)
  exact ⟨h1.keep (hb B h7 h1.lt), ⟨RowC.kept h2.1 hs fun d hd => hb d (h2.2.2.2.1 d hd) (RowC.lt h2.1 d hd), RowC.kept h2.2.1 hs fun d hd => hb d (h2.2.2.2.2.1 d hd) (RowC.lt h2.2.1 d hd), h2.2.2⟩, k3, FO.at stC_len k3 (fun i hi => h4 _ (List.getElem_mem hi)) (fun _ _ => Nat.zero_le _)⟩
end Go.Proofs.YtfeccdhadgpnkaaDoor.Msg
