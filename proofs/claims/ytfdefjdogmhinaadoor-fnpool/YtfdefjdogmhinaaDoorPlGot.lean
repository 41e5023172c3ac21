import Derived.Test.YtfdefjdogmhinaaDoorPlKitwithFgtS1
import Derived.Test.YtfdefjdogmhinaaDoorFgtS
import Derived.Deep.CutRange
namespace Go.Proofs.YtfdefjdogmhinaaDoor.Msg
open Go.ChangeShapes Go.WideShapes Go.ChangeAt Go.RowKit
set_option linter.unusedVariables false
set_option linter.unusedSimpArgs false

theorem tmod_nat (a b : Nat) : (a : Int).tmod (b : Int) = ((a % b : Nat) : Int) := by
  rw [Int.tmod_eq_emod_of_nonneg (by omega)]
  omega
theorem emod_nat (a b : Nat) : (a : Int) % (b : Int) = ((a % b : Nat) : Int) := by omega
theorem PlAt.lo0 {lo : Nat} {w : World} {x : Pl} {cv qv : Value} (h : PlAt lo w x cv qv) : PlAt 0 w x cv qv := ⟨At.lo0 h.1, At.lo0 h.2⟩
theorem tag_size {r3 : Nat} {tg : ByteArray} (htg : (⟨#[116]⟩ : ByteArray) ++ decT r3 = tg) (h : (decT r3).size ≤ 7) : 1 ≤ tg.size ∧ tg.size ≤ 8 := by
  rw [← htg, ByteArray.size_append]
  have : (⟨#[116]⟩ : ByteArray).size = 1 := rfl
  omega
theorem tag_ok {r3 : Nat} {tg : ByteArray} (htg : (⟨#[116]⟩ : ByteArray) ++ decT r3 = tg) (h : (decT r3).size ≤ 7) : tagB tg = true := by
  have h1 := tag_size htg h
  unfold tagB
  rw [bound_in h1.1 (by omega), ← htg]
  exact plain_app _ _ (by decide) (plain_dec _)
theorem okWn_of {cl : Int} {r3 ak : Nat} {tg qk : ByteArray} (hcl : 0 ≤ cl ∧ cl < 4) (htg : (⟨#[116]⟩ : ByteArray) ++ decT r3 = tg) (hqk : decT ak = qk) (h3 : (decT r3).size ≤ 7) (hk : (decT ak).size ≤ 7) : okWn ⟨cl, tg, qk, ⟨#[]⟩⟩ = true := by
  unfold okWn
  simp only
  have h1 : clientB cl = true := by unfold clientB; rw [decide_eq_true hcl.1, decide_eq_true hcl.2]; rfl
  have h2 : textB qk = true := by unfold textB; rw [← hqk, bound_in (Nat.zero_le _) (by omega)]; exact plain_dec _
  rw [h1, tag_ok htg h3, h2]
  decide
theorem wnZ_of {cl : Int} {r3 ak : Nat} {tg qk : ByteArray} (htg : (⟨#[116]⟩ : ByteArray) ++ decT r3 = tg) (hqk : decT ak = qk) (h3 : (decT r3).size ≤ 7) (hk : (decT ak).size ≤ 7) : wnZ ⟨cl, tg, qk, ⟨#[]⟩⟩ := by
  have h1 := tag_size htg h3
  refine ⟨by simp only; omega, by simp only; rw [← hqk]; omega, by simp only; decide⟩
theorem Box.four {W : World} {b : Nat} {t : TypeId} {y0 y1 y2 y3 : Value} (h : Box W b t #[y0, y1, y2, y3]) : (W.cell? ⟨b, 0, none⟩ = some y0 ∧ W.cell? ⟨b, 1, none⟩ = some y1 ∧ W.cell? ⟨b, 2, none⟩ = some y2 ∧ W.cell? ⟨b, 3, none⟩ = some y3) ∧ W.frozen? ⟨b, 0, none⟩ = false ∧ W.frozen? ⟨b, 1, none⟩ = false ∧ W.frozen? ⟨b, 2, none⟩ = false ∧ W.frozen? ⟨b, 3, none⟩ = false :=
  ⟨⟨h.cell 0 (by simp), h.cell 1 (by simp), h.cell 2 (by simp), h.cell 3 (by simp)⟩, h.frozen 0, h.frozen 1, h.frozen 2, h.frozen 3⟩
theorem PQ.texts {P Q base : Nat} {x : Pl} {cv qv cv2 qv2 u : Value} {X Y : World} {cts : List ByteArray} (h : PQ P Q x cv qv cv2 qv2 X) (hc : CB base X u cts) (ho : Only u.ownBlock.toList X Y) : PQ P Q x cv qv cv2 qv2 Y := by
  have hoff : ∀ (B : Nat) (arr : Array Value), Box X B 27 arr → B ∉ u.ownBlock.toList := fun B arr hB hm => by
    obtain ⟨cur, hx, _⟩ := hc.2 B hm
    exact (hx.ne hB (by decide)) rfl
  exact ⟨h.1.only ho (hoff _ _ h.1), h.2.1.only ho (hoff _ _ h.2.1), ⟨At.texts h.2.2.1.1 no_cn hc ho, At.texts h.2.2.1.2 no_wn hc ho⟩, ⟨At.texts h.2.2.2.1 no_cn hc ho, At.texts h.2.2.2.2 no_wn hc ho⟩⟩
theorem dec_digits (u : Nat) : (decT u).data.toList.all digitB = true := by unfold decT; simpa using (dec_spells u).2.1
theorem dec_value (u : Nat) : decV 0 (decT u).data.toList = u := by unfold decT; simpa using (dec_spells u).1
/-- what a call of Forget gave, in its box -/
def Got3 (R : Pl) (ss : List St) (zs : List Int) (W0 : World) (B : Nat) (cv qv sv lv : Value) (X : World) : Prop :=
  Box X B 27 #[.int .i64 R.epoch, .int .i64 R.next, cv, qv] ∧ PlAt 0 X R cv qv ∧ StsAt 0 X sv ss ∧ InsAt 0 X lv zs ∧ Below W0.heap.size W0 X ∧ W0.heap.size ≤ B
theorem Got3.late {R : Pl} {ss : List St} {zs : List Int} {W0 W5 : World} {cv qv sv lv : Value} {lo5 : Nat} (hp : PlAt 0 W5 R cv qv) (hs : StsAt 0 W5 sv ss) (hl : InsAt lo5 W5 lv zs) (hb : Below W0.heap.size W0 W5) :
    Got3 R ss zs W0 W5.heap.size cv qv sv lv (W5.alloc (.cells #[.int .i64 R.epoch, .int .i64 R.next, cv, qv] 27)) := by
  have hb5 : Below W5.heap.size W5 (W5.alloc (.cells #[.int .i64 R.epoch, .int .i64 R.next, cv, qv] 27)) := (Below.refl _ _).alloc (Nat.le_refl _) _
  exact ⟨Box.new _ _ _, hp.below hb5, At.kept kept_flat hs hb5, At.lo0 (At.kept kept_flat hl hb5), bjoin hb5 hb, hb.size⟩
theorem Got3.early {R : Pl} {ss : List St} {zs : List Int} {W0 W5 : World} {B : Nat} {cv qv sv lv : Value} {lo5 : Nat} (hz : Box W5 B 27 #[.int .i64 0, .int .i64 0, .slice none 0 0, .slice none 0 0]) (hp : PlAt 0 W5 R cv qv) (hs : StsAt 0 W5 sv ss) (hl : InsAt lo5 W5 lv zs) (hBl : B < lo5) (hb : Below W0.heap.size W0 W5) (hB : W0.heap.size ≤ B) :
    Got3 R ss zs W0 B cv qv sv lv ((((W5.setCell ⟨B, 0, none⟩ (.int .i64 R.epoch)).setCell ⟨B, 1, none⟩ (.int .i64 R.next)).setCell ⟨B, 2, none⟩ cv).setCell ⟨B, 3, none⟩ qv) := by
  have ho : Only [B] W5 ((((W5.setCell ⟨B, 0, none⟩ (.int .i64 R.epoch)).setCell ⟨B, 1, none⟩ (.int .i64 R.next)).setCell ⟨B, 2, none⟩ cv).setCell ⟨B, 3, none⟩ qv) := set4_only W5 B _ _ _ _
  refine ⟨hz.fill4 _ _ _ _, ⟨At.pool hp.1 str_cn hz ho, At.pool hp.2 str_wn hz ho⟩, At.pool hs str_st hz ho, ?_, hb.trans (ho.below hb.size fun d hd => by simp at hd; omega), hB⟩
  obtain ⟨h0, h⟩ := hl
  refine ⟨h0, ?_⟩
  rcases h with h | ⟨b, off, cap, rfl, ⟨hlt1, hlt2⟩, h⟩
  · exact .inl h
  · refine .inr ⟨b, off, cap, rfl, ⟨Nat.zero_le _, Nat.lt_of_lt_of_le hlt2 ho.size⟩, fun i hi => ⟨fun j hj => ?_, trivial⟩⟩
    have hbB : b ∉ [B] := by simp; omega
    have := (h i hi).1 j hj
    rw [← this]
    exact cellSame (ho.block b hlt2 hbB)
theorem box5z {Wc W5 : World} {b : Nat} {t : TypeId} (h : Box Wc b t #[.int .i64 0, .int .i64 0, .slice none 0 0, .slice none 0 0]) (hb : Below Wc.heap.size Wc W5) {G : Prop}
    (k : Box W5 b t #[.int .i64 0, .int .i64 0, .slice none 0 0, .slice none 0 0] → b < Wc.heap.size → (W5.cell? ⟨b, 0, none⟩ = some (.int .i64 0) ∧ W5.cell? ⟨b, 1, none⟩ = some (.int .i64 0) ∧ W5.cell? ⟨b, 2, none⟩ = some (.slice none 0 0) ∧ W5.cell? ⟨b, 3, none⟩ = some (.slice none 0 0)) ∧ W5.frozen? ⟨b, 0, none⟩ = false ∧ W5.frozen? ⟨b, 1, none⟩ = false ∧ W5.frozen? ⟨b, 2, none⟩ = false ∧ W5.frozen? ⟨b, 3, none⟩ = false → G) : G := k (h.below hb) h.lt (h.below hb).pool
/-- what a call of Answer gave, in its boxes -/
def wnA (z : Wn) : Array Value := #[.int .i64 z.client, .string z.tag, .string z.query, .string z.pointer]
def Got4 (R : Pl) (ss : List St) (z : Wn) (W0 : World) (B B9 : Nat) (cv qv sv : Value) (X : World) : Prop :=
  Box X B 27 #[.int .i64 R.epoch, .int .i64 R.next, cv, qv] ∧ Box X B9 33 (wnA z) ∧ PlAt 0 X R cv qv ∧ StsAt 0 X sv ss ∧ Below W0.heap.size W0 X ∧ W0.heap.size ≤ B
theorem box5w {Wc W5 : World} {b : Nat} {t : TypeId} (h : Box Wc b t #[.int .i64 0, .string ⟨#[]⟩, .string ⟨#[]⟩, .string ⟨#[]⟩]) (hb : Below Wc.heap.size Wc W5) {G : Prop}
    (k : Box W5 b t #[.int .i64 0, .string ⟨#[]⟩, .string ⟨#[]⟩, .string ⟨#[]⟩] → b < Wc.heap.size → (W5.cell? ⟨b, 0, none⟩ = some (.int .i64 0) ∧ W5.cell? ⟨b, 1, none⟩ = some (.string ⟨#[]⟩) ∧ W5.cell? ⟨b, 2, none⟩ = some (.string ⟨#[]⟩) ∧ W5.cell? ⟨b, 3, none⟩ = some (.string ⟨#[]⟩)) ∧ W5.frozen? ⟨b, 0, none⟩ = false ∧ W5.frozen? ⟨b, 1, none⟩ = false ∧ W5.frozen? ⟨b, 2, none⟩ = false ∧ W5.frozen? ⟨b, 3, none⟩ = false → G) : G := k (h.below hb) h.lt (h.below hb).four
theorem Below.al {B : Nat} {w X : World} {o : Obj} (h : Below B w X) (hs : B ≤ w.heap.size) : Below B w (X.alloc o) := h.alloc (Nat.le_trans hs h.size) o
theorem Below.st {B : Nat} {w X : World} {b o : Nat} {v : Value} (h : Below B w X) (hb : B ≤ b) : Below B w (X.setCell ⟨b, o, none⟩ v) := h.setCell hb v
theorem okCn_sizes {c : Cn} (h : okCn c = true) : c.control.size ≤ 1048576 ∧ c.want.tag.size ≤ 1048576 := by
  have key : ∀ (lo hi : Nat) (s : ByteArray), boundB lo hi s = true → s.size ≤ hi := fun lo hi s hs => Decidable.byContradiction fun hn => by rw [bound_hi hn] at hs; cases hs
  unfold okCn at h
  split at h
  · simp only [Bool.and_eq_true, okWn] at h
    have h1 := key _ _ _ h.1
    have h2 := key _ _ _ h.2.1.2.1
    omega
  · unfold zeroB at h
    obtain ⟨h1, _, _, h2, _⟩ := of_decide_eq_true h
    rw [h1, h2]
    decide
/-- the rows of an answer -/
def Rw (R : Pl) (ss : List St) (W0 : World) (cv qv sv : Value) (X : World) : Prop := PlAt 0 X R cv qv ∧ StsAt 0 X sv ss ∧ Below W0.heap.size W0 X
theorem Rw.al {R : Pl} {ss : List St} {W0 X : World} {cv qv sv : Value} (h : Rw R ss W0 cv qv sv X) (o : Obj) : Rw R ss W0 cv qv sv (X.alloc o) := by
  have hb : Below X.heap.size X (X.alloc o) := (Below.refl _ _).alloc (Nat.le_refl _) _
  exact ⟨h.1.below hb, At.kept kept_flat h.2.1 hb, bjoin hb h.2.2⟩
theorem Rw.pool {R : Pl} {ss : List St} {W0 X U : World} {cv qv sv : Value} {B : Nat} (h : Rw R ss W0 cv qv sv X) (hb : Box X B 27 #[.int .i64 0, .int .i64 0, .slice none 0 0, .slice none 0 0]) (hB : W0.heap.size ≤ B)
    (e : ((((X.setCell ⟨B, 0, none⟩ (.int .i64 R.epoch)).setCell ⟨B, 1, none⟩ (.int .i64 R.next)).setCell ⟨B, 2, none⟩ cv).setCell ⟨B, 3, none⟩ qv) = U) : Rw R ss W0 cv qv sv U ∧ Box U B 27 #[.int .i64 R.epoch, .int .i64 R.next, cv, qv] ∧ Only [B] X U := by
  subst e
  have ho : Only [B] X ((((X.setCell ⟨B, 0, none⟩ (.int .i64 R.epoch)).setCell ⟨B, 1, none⟩ (.int .i64 R.next)).setCell ⟨B, 2, none⟩ cv).setCell ⟨B, 3, none⟩ qv) := set4_only X B _ _ _ _
  exact ⟨⟨⟨At.pool h.1.1 str_cn hb ho, At.pool h.1.2 str_wn hb ho⟩, At.pool h.2.1 str_st hb ho, h.2.2.trans (ho.below h.2.2.size fun d hd => by simp at hd; omega)⟩, hb.fill4 _ _ _ _, ho⟩
theorem Got4.fin {R : Pl} {ss : List St} {z : Wn} {W0 U : World} {cv qv sv : Value} {B B9 : Nat} (h : Rw R ss W0 cv qv sv U) (hb : Box U B 27 #[.int .i64 R.epoch, .int .i64 R.next, cv, qv]) (hw : Box U B9 33 #[.int .i64 0, .string ⟨#[]⟩, .string ⟨#[]⟩, .string ⟨#[]⟩]) (hB : W0.heap.size ≤ B) (hB9 : W0.heap.size ≤ B9) (hnz : (∀ q ∈ R.queue, q.tag ≠ ⟨#[]⟩) ∧ ∀ t ∈ ss, t.control ≠ ⟨#[]⟩) :
    Got4 R ss z W0 B B9 cv qv sv ((((U.setCell ⟨B9, 0, none⟩ (.int .i64 z.client)).setCell ⟨B9, 1, none⟩ (.string z.tag)).setCell ⟨B9, 2, none⟩ (.string z.query)).setCell ⟨B9, 3, none⟩ (.string z.pointer)) := by
  have ho : Only [B9] U ((((U.setCell ⟨B9, 0, none⟩ (.int .i64 z.client)).setCell ⟨B9, 1, none⟩ (.string z.tag)).setCell ⟨B9, 2, none⟩ (.string z.query)).setCell ⟨B9, 3, none⟩ (.string z.pointer)) := set4_only U B9 _ _ _ _
  have hk : ∀ d, d ≠ B9 → d < U.heap.size → _ := fun d hd hlt => ho.block d hlt (by simpa using hd)
  have hne : B ≠ B9 := hb.ne hw (by decide)
  exact ⟨hb.only ho (by simpa using hne), hw.fill4 _ _ _ _, ⟨at_off2 h.1.1 hw (fun q _ => qoff_cn q) ho.size hk, at_off2 h.1.2 hw (fun q hq => qoff_wn q (hnz.1 q hq)) ho.size hk⟩, at_off2 h.2.1 hw (fun q hq => qoff_st q (hnz.2 q hq)) ho.size hk, h.2.2.trans (ho.below h.2.2.size fun d hd => by simp at hd; omega), hB⟩
theorem Got4.ll1 {R : Pl} {ss : List St} {z : Wn} {W0 U : World} {cv qv sv : Value} (h : Rw R ss W0 cv qv sv U) :
    Got4 R ss z W0 U.heap.size (U.heap.size + 1) cv qv sv ((U.alloc (.cells #[.int .i64 R.epoch, .int .i64 R.next, cv, qv] 27)).alloc (.cells #[.int .i64 z.client, .string z.tag, .string z.query, .string z.pointer] 33)) := by
  have h2 := (h.al (.cells #[.int .i64 R.epoch, .int .i64 R.next, cv, qv] 27)).al (.cells #[.int .i64 z.client, .string z.tag, .string z.query, .string z.pointer] 33)
  have h3 := Box.new (U.alloc (.cells #[.int .i64 R.epoch, .int .i64 R.next, cv, qv] 27)) 33 #[.int .i64 z.client, .string z.tag, .string z.query, .string z.pointer]
  rw [Deep.nblk_alloc] at h3
  exact ⟨(Box.new U _ _).alloc _, h3, h2.1, h2.2.1, h2.2.2, h.2.2.size⟩
theorem Got4.ll2 {R : Pl} {ss : List St} {z : Wn} {W0 U : World} {cv qv sv : Value} (h : Rw R ss W0 cv qv sv U) :
    Got4 R ss z W0 (U.heap.size + 1) U.heap.size cv qv sv ((U.alloc (.cells #[.int .i64 z.client, .string z.tag, .string z.query, .string z.pointer] 33)).alloc (.cells #[.int .i64 R.epoch, .int .i64 R.next, cv, qv] 27)) := by
  have h2 := (h.al (.cells #[.int .i64 z.client, .string z.tag, .string z.query, .string z.pointer] 33)).al (.cells #[.int .i64 R.epoch, .int .i64 R.next, cv, qv] 27)
  have h3 := Box.new (U.alloc (.cells #[.int .i64 z.client, .string z.tag, .string z.query, .string z.pointer] 33)) 27 #[.int .i64 R.epoch, .int .i64 R.next, cv, qv]
  rw [Deep.nblk_alloc] at h3
  exact ⟨h3, (Box.new U _ _).alloc _, h2.1, h2.2.1, h2.2.2, Nat.le_trans h.2.2.size (Nat.le_succ _)⟩
theorem Rw.of {R : Pl} {ss : List St} {W0 X Y : World} {cv qv sv : Value} (h : Rw R ss W0 cv qv sv X) (hb : Below X.heap.size X Y) : Rw R ss W0 cv qv sv Y := ⟨h.1.below hb, At.kept kept_flat h.2.1 hb, bjoin hb h.2.2⟩
theorem pool_then {R : Pl} {ss : List St} {W0 X : World} {cv qv sv : Value} {B : Nat} (h : Rw R ss W0 cv qv sv X) (hb : Box X B 27 #[.int .i64 0, .int .i64 0, .slice none 0 0, .slice none 0 0]) (hB : W0.heap.size ≤ B) {G : Prop}
    (k : ∀ V, ((((X.setCell ⟨B, 0, none⟩ (.int .i64 R.epoch)).setCell ⟨B, 1, none⟩ (.int .i64 R.next)).setCell ⟨B, 2, none⟩ cv).setCell ⟨B, 3, none⟩ qv) = V → Rw R ss W0 cv qv sv V → Box V B 27 #[.int .i64 R.epoch, .int .i64 R.next, cv, qv] → Only [B] X V → G) : G :=
  k _ rfl (h.pool hb hB rfl).1 (h.pool hb hB rfl).2.1 (h.pool hb hB rfl).2.2
theorem al_then (X : World) (arr : Array Value) (t : TypeId) {G : Prop} (k : ∀ U, X.alloc (.cells arr t) = U → Below X.heap.size X U → Box U X.heap.size t arr → G) : G :=
  k _ rfl ((Below.refl _ _).alloc (Nat.le_refl _) _) (Box.new _ _ _)
theorem box4z {W : World} {b : Nat} {t : TypeId} (h : Box W b t #[.int .i64 0, .int .i64 0, .slice none 0 0, .slice none 0 0]) {G : Prop}
    (k : Box W b t #[.int .i64 0, .int .i64 0, .slice none 0 0, .slice none 0 0] → (W.cell? ⟨b, 0, none⟩ = some (.int .i64 0) ∧ W.cell? ⟨b, 1, none⟩ = some (.int .i64 0) ∧ W.cell? ⟨b, 2, none⟩ = some (.slice none 0 0) ∧ W.cell? ⟨b, 3, none⟩ = some (.slice none 0 0)) ∧ W.frozen? ⟨b, 0, none⟩ = false ∧ W.frozen? ⟨b, 1, none⟩ = false ∧ W.frozen? ⟨b, 2, none⟩ = false ∧ W.frozen? ⟨b, 3, none⟩ = false → G) : G := k h h.pool
theorem box4w {W : World} {b : Nat} {t : TypeId} (h : Box W b t #[.int .i64 0, .string ⟨#[]⟩, .string ⟨#[]⟩, .string ⟨#[]⟩]) {G : Prop}
    (k : Box W b t #[.int .i64 0, .string ⟨#[]⟩, .string ⟨#[]⟩, .string ⟨#[]⟩] → (W.cell? ⟨b, 0, none⟩ = some (.int .i64 0) ∧ W.cell? ⟨b, 1, none⟩ = some (.string ⟨#[]⟩) ∧ W.cell? ⟨b, 2, none⟩ = some (.string ⟨#[]⟩) ∧ W.cell? ⟨b, 3, none⟩ = some (.string ⟨#[]⟩)) ∧ W.frozen? ⟨b, 0, none⟩ = false ∧ W.frozen? ⟨b, 1, none⟩ = false ∧ W.frozen? ⟨b, 2, none⟩ = false ∧ W.frozen? ⟨b, 3, none⟩ = false → G) : G := k h h.four
theorem MJ.nz {N ak : Nat} {r e l : Int} {x : Pl} {ss : List St} {j : Nat} {cts : List ByteArray} (h : MJ N ak r e l x ss j cts) : (∀ q ∈ x.queue, q.tag ≠ ⟨#[]⟩) ∧ ∀ t ∈ ss, t.control ≠ ⟨#[]⟩ := by
  refine ⟨fun q hq e => ?_, fun t ht e => ?_⟩
  · have h1 := h.pre.q q hq
    unfold okWn at h1
    rw [e] at h1
    simp only [Bool.and_eq_true] at h1
    have h2 := h1.2.1
    revert h2
    decide
  · obtain ⟨i, hi, rfl⟩ := List.getElem_of_mem ht
    have h1 := h.ctl i hi
    rw [e] at h1
    have h2 := congrArg ByteArray.size h1
    unfold ctlOf at h2
    simp only [ByteArray.size_append] at h2
    have h3 : (⟨#[85]⟩ : ByteArray).size = 1 := rfl
    have h4 : (⟨#[]⟩ : ByteArray).size = 0 := rfl
    omega
/-! the piece of the law's code at the four operations -/
def cSL : Code → Code
  | .seq a _ => a
  | c => c
def cSR : Code → Code
  | .seq _ b => b
  | c => c
def cB : Code → Code
  | .block _ b => b
  | c => c
def cL : Code → Code
  | .loop b => b
  | c => c
def C95 (f : Code) : Code := cSR (cSL (cSR (cSR (cSR (cSR (cSR (cB (cSL (cSR (cL (cB (cSR (cSL (cSR (cSR (cSR (cSR (cSR (cSR (cSR (cSR (cSR (cSR (cSR (cSR (cSR f))))))))))))))))))))))))))
/-- the first pool -/
theorem PJ.start {N E : Nat} (hN : 1 ≤ N ∧ N ≤ 4) (hE : E ≤ 2) : PJ N 0 0 0 (-1) ⟨(E : Int), 0, List.replicate N cn0, []⟩ [] := by
  refine ⟨⟨⟨by simp only; omega, by simp only; omega⟩, ⟨by simp, by simp⟩, by simp, by simp, by simp, fun c hc => ?_⟩, .inl rfl, ?_, by omega, ⟨[], rfl, by simp, by simp⟩, ⟨rfl, by simp⟩⟩
  · rw [(List.mem_replicate.1 hc).2]; exact okCn0
  · simp only [List.length_nil, busyN, List.countP_replicate, cn0]
    simp
end Go.Proofs.YtfdefjdogmhinaaDoor.Msg
