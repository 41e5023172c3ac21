import Derived.Test.YtpmnepalchgcbaaGreatDoorMarkStrwithMarkMsgwithFlatKit
import Derived.Deep.RegionHeld3
import Derived.Test.YtpmnepalchgcbaaGreatDoorMsgEqwithMsgEq2withMsgTo
import Derived.Test.YtpmnepalchgcbaaGreatDoorTblSzwithMarkTextwithMarkData
import Derived.Test.YtpmnepalchgcbaaGreatDoorMsgTo2withChgLawwithMsgSz3
namespace Go.Proofs.YtpmnepalchgcbaaGreatDoor.Msg
open Go.ChangeShapes Go.WideShapes Go.ChangeAt Go.RowKit
set_option linter.unusedVariables false
set_option linter.unusedSimpArgs false

theorem markText_int (x : Int) (k0 : Nat) (hx : x = (k0 : Int)) (w : World) (h0 : 1 ≤ k0) (h1 : k0 ≤ 4611686018427387904) :
    Calls Tryz.prog 48 #[.int .i64 x] w fun e w' => e = .returned (.string (markT k0)) ∧ Below w.heap.size w w' := by
  subst hx
  exact markText_any k0 w h0 h1
/-- a run of cells that may be written -/
def Cells (w : World) (b off m : Nat) (g : Nat → Value) : Prop := ∀ i, i < m → w.cell? ⟨b, off + i, none⟩ = some (g i) ∧ w.frozen? ⟨b, off + i, none⟩ = false
theorem Cells.get {w : World} {b off m : Nat} {g : Nat → Value} (h : Cells w b off m g) (p q : Nat) (hi : p + q < m) : w.cell? ⟨b, off + p + q, none⟩ = some (g (p + q)) ∧ w.frozen? ⟨b, off + p + q, none⟩ = false := by
  rw [Nat.add_assoc]
  exact h _ hi
theorem Cells.set {w : World} {b off m : Nat} {g : Nat → Value} (h : Cells w b off m g) {p q : Nat} (hi : p + q < m) (v : Value) : Cells (w.setCell ⟨b, off + p + q, none⟩ v) b off m (fun x => if x = p + q then v else g x) := by
  intro i him
  obtain ⟨h1, h2⟩ := h i him
  refine ⟨?_, by rw [World.frozen?_setCell]; exact h2⟩
  by_cases e : i = p + q
  · subst e
    simp only [if_true]
    rw [← Nat.add_assoc] at h1 ⊢
    rw [World.cell?_setCell_same _ _ _ h1]
  · simp only [if_neg e]
    rw [World.cell?_setCell_other _ _ _ _ (by intro h; injection h with _ h2 _; omega), h1]
theorem Cells.set0 {w : World} {b off m : Nat} {g : Nat → Value} (h : Cells w b off m g) {p : Nat} (hi : p < m) (v : Value) : Cells (w.setCell ⟨b, off + p, none⟩ v) b off m (fun x => if x = p then v else g x) :=
  h.set (p := p) (q := 0) hi v
theorem Cells.below {w w' : World} {b off m : Nat} {g : Nat → Value} (h : Cells w b off m g) (hb : Below w.heap.size w w') (hlt : b < w.heap.size) : Cells w' b off m g := fun i hi =>
  ⟨by rw [hb.cell (p := ⟨b, off + i, none⟩) hlt]; exact (h i hi).1, by rw [hb.frozen (p := ⟨b, off + i, none⟩) hlt]; exact (h i hi).2⟩
theorem Cells.congr {w : World} {b off m : Nat} {g f : Nat → Value} (h : Cells w b off m g) (hg : ∀ i, i < m → g i = f i) : Cells w b off m f := fun i hi => ⟨by rw [← hg i hi]; exact (h i hi).1, (h i hi).2⟩
theorem bool_same {a b : Bool} (h : a = b) : Value.bool a = .bool b := by rw [h]
theorem int_same {a b : Int} (h : a = b) : Value.int .i64 a = .int .i64 b := by rw [h]

def mvWant (k i : Nat) : Value :=
  if i % 4 = 0 then .int .i64 ((k + i : Nat) : Int) else if i % 4 = 1 then .string (markT (k + i)) else if i % 4 = 2 then .string (markT (k + i)) else .string (markT (k + i))
theorem mvWant_0 (k j : Nat) : mvWant k (j * 4 + 0) = .int .i64 ((k + (j * 4 + 0) : Nat) : Int) := by
  unfold mvWant
  rw [if_pos (by omega)]
theorem mvWant_1 (k j : Nat) : mvWant k (j * 4 + 1) = .string (markT (k + (j * 4 + 1))) := by
  unfold mvWant
  rw [if_neg (by omega), if_pos (by omega)]
theorem mvWant_2 (k j : Nat) : mvWant k (j * 4 + 2) = .string (markT (k + (j * 4 + 2))) := by
  unfold mvWant
  rw [if_neg (by omega), if_neg (by omega), if_pos (by omega)]
theorem mvWant_3 (k j : Nat) : mvWant k (j * 4 + 3) = .string (markT (k + (j * 4 + 3))) := by
  unfold mvWant
  rw [if_neg (by omega), if_neg (by omega), if_neg (by omega)]
end Go.Proofs.YtpmnepalchgcbaaGreatDoor.Msg

namespace Go.Proofs.YtpmnepalchgcbaaGreatDoor.Msg
open Go.ChangeShapes Go.WideShapes Go.ChangeAt Go.RowKit
set_option linter.unusedVariables false
set_option linter.unusedSimpArgs false

/-! sessions that may be written: seven cells each, the rows of each in a block of its own -/
def sC (x : Sess) (v : Value) : Nat → Value
  | 0 => .int .i64 x.client
  | 1 => .string x.tag
  | 2 => .string x.query
  | 3 => .int .i64 x.page
  | 4 => .int .i64 x.state
  | 5 => v
  | _ => .int .i64 x.cursor
def SessO (w : World) (b off : Nat) (x : Sess) (bs : List Nat) : Prop :=
  ∃ v, Cells w b off 7 (sC x v) ∧ x.tag.size ≤ 9223372036854775807 ∧ x.query.size ≤ 9223372036854775807 ∧ OStrs w v x.rows bs
def OSesss : World → Value → List Sess → List Nat → Prop := OAt 7 SessO
theorem Cells.same {w w' : World} {b off m : Nat} {g : Nat → Value} (h : Cells w b off m g) (hb : w'.heap[b]? = w.heap[b]?) : Cells w' b off m g := fun i hi =>
  ⟨by rw [cellSame hb]; exact (h i hi).1, by rw [frozenSame hb]; exact (h i hi).2⟩
theorem Cells.put {w : World} {b off m : Nat} {g : Nat → Value} (h : Cells w b off m g) {q : Nat} (hq : q < m) (v : Value) : Cells (w.setCell ⟨b, off + q, none⟩ v) b off m (fun x => if x = q then v else g x) := by
  intro i him
  obtain ⟨h1, h2⟩ := h i him
  refine ⟨?_, by rw [World.frozen?_setCell]; exact h2⟩
  by_cases e : i = q
  · subst e
    simp only [if_true]
    rw [World.cell?_setCell_same _ _ _ h1]
  · simp only [if_neg e]
    rw [World.cell?_setCell_other _ _ _ _ (by intro h; injection h with _ h2 _; omega), h1]
theorem keptO_sess : KeptO SessO := fun w w' b off x bs h hb hs hc => let ⟨v, h1, z1, z2, h2⟩ := h; ⟨v, h1.same hb, z1, z2, OAt.kept keptO_str h2 hs hc⟩
theorem ltO_sess : LtO SessO := fun w b off x bs h => let ⟨v, h1, z1, z2, h2⟩ := h; OAt.lt ltO_str h2
theorem toAt_sess : ToAt SessO SessR := fun lo w b off x bs h hlo => by
  obtain ⟨v, h1, z1, z2, h2⟩ := h
  exact ⟨(h1 0 (by omega)).1, (h1 1 (by omega)).1, (h1 2 (by omega)).1, (h1 3 (by omega)).1, (h1 4 (by omega)).1, (h1 6 (by omega)).1, z1, z2, v, (h1 5 (by omega)).1, OAt.toAt toAt_str h2 hlo⟩

def mkSess (k : Nat) (s : Sess) : Sess := ⟨(k : Int), markT (k + 1), markT (k + 2), ((k + 3 : Nat) : Int), ((k + 4 : Nat) : Int), mkRep (k + 5) s.rows, ((k + 5 + cRep s.rows : Nat) : Int)⟩
def cSess (s : Sess) : Nat := 6 + cRep s.rows
def mkTbl : Nat → List Sess → List Sess := mkL mkSess cSess ⟨0, ⟨#[]⟩, ⟨#[]⟩, 0, 0, [], 0⟩
def cTbl (xs : List Sess) : Nat := sumOf cSess xs
def MixT (k : Nat) (w : World) (b off : Nat) (xs : List Sess) (bss : List (List Nat)) (j : Nat) : Prop :=
  ∀ i (h : i < xs.length) (h2 : i < bss.length), SessO w b (off + i * 7) (if i < j then mkSess (k + sumOf cSess (xs.take i)) xs[i] else xs[i]) bss[i]
/-- one session of the row was written, and its rows -/
structure Upd (bs : List Nat) (b p : Nat) (w w' : World) : Prop where
  only : Only (b :: bs) w w'
  oth : ∀ o, (o < p ∨ p + 7 ≤ o) → w'.cell? ⟨b, o, none⟩ = w.cell? ⟨b, o, none⟩
  fz : ∀ o, w'.frozen? ⟨b, o, none⟩ = w.frozen? ⟨b, o, none⟩
theorem Upd.refl (bs : List Nat) (b p : Nat) (w : World) : Upd bs b p w w := ⟨Only.refl _ _, fun _ _ => rfl, fun _ => rfl⟩
theorem Upd.set {bs : List Nat} {b p : Nat} {w w' : World} (h : Upd bs b p w w') {q : Nat} (hq : q < 7) (v : Value) : Upd bs b p w (w'.setCell ⟨b, p + q, none⟩ v) :=
  ⟨h.only.setCell (by simp) _, fun o ho => by rw [World.cell?_setCell_other _ _ _ _ (by intro h; injection h with _ h2 _; omega)]; exact h.oth o ho, fun o => by rw [World.frozen?_setCell]; exact h.fz o⟩
theorem Upd.below {bs : List Nat} {b p : Nat} {w w' w2 : World} (h : Upd bs b p w w') (hb : Below w'.heap.size w' w2) (hlt : b < w'.heap.size) : Upd bs b p w w2 :=
  ⟨h.only.trans (Only.of_below hb), fun o ho => by rw [hb.cell (p := ⟨b, o, none⟩) hlt]; exact h.oth o ho, fun o => by rw [hb.frozen (p := ⟨b, o, none⟩) hlt]; exact h.fz o⟩
theorem Upd.on {bs : List Nat} {b p : Nat} {w w' w2 : World} (h : Upd bs b p w w') (ho : Only bs w' w2) (hlt : b < w'.heap.size) (hn : b ∉ bs) : Upd bs b p w w2 := by
  have hb := ho.block b hlt hn
  exact ⟨h.only.trans (ho.mono fun c hc => List.mem_cons_of_mem _ hc), fun o hx => by rw [cellSame hb]; exact h.oth o hx, fun o => by rw [frozenSame hb]; exact h.fz o⟩
theorem Upd.wide {b p : Nat} {w w' : World} (h : Upd [] b p w w') (bs : List Nat) : Upd bs b p w w' := ⟨h.only.mono fun c hc => by rw [List.mem_singleton.1 hc]; simp, h.oth, h.fz⟩
theorem Upd.rows {bs : List Nat} {b p : Nat} {w w' : World} (h : Upd bs b p w w') {v : Value} {xs : List ByteArray} {cs : List Nat} (hO : OStrs w v xs cs) (hn : ∀ c ∈ cs, c ∉ b :: bs) : OStrs w' v xs cs :=
  OAt.kept keptO_str hO h.only.size fun d hd => h.only.block d (OAt.lt ltO_str hO d hd) (hn d hd)
theorem MixT.step {k : Nat} {w w9 : World} {b off : Nat} {xs : List Sess} {bss : List (List Nat)} {j : Nat}
    (h : MixT k w b off xs bss j) (hn : (b :: bss.flatten).Nodup) (hj : j < xs.length) (hj2 : j < bss.length) (hU : Upd bss[j] b (off + j * 7) w w9)
    (hS : SessO w9 b (off + j * 7) (mkSess (k + sumOf cSess (xs.take j)) xs[j]) bss[j]) : MixT k w9 b off xs bss (j + 1) := by
  rw [List.nodup_cons] at hn
  have hnb : ∀ i (h2 : i < bss.length), b ∉ bss[i] := fun i h2 hm => hn.1 (by rw [List.mem_flatten]; exact ⟨_, List.getElem_mem h2, hm⟩)
  intro i hi h2
  by_cases e : i = j
  · subst e
    rw [if_pos (by omega)]
    exact hS
  · obtain ⟨v, hC, z1, z2, hO⟩ := h i hi h2
    have g : SessO w9 b (off + i * 7) (if i < j then mkSess (k + sumOf cSess (xs.take i)) xs[i] else xs[i]) bss[i] :=
      ⟨v, fun q hq => ⟨by rw [hU.oth _ (by omega)]; exact (hC q hq).1, by rw [hU.fz]; exact (hC q hq).2⟩, z1, z2, hU.rows hO fun c hc hm => by
        rcases List.mem_cons.1 hm with rfl | hm
        · exact hnb i h2 hc
        · exact disj_of hn.2 h2 hj2 e hc hm⟩
    by_cases e2 : i < j
    · rw [if_pos e2] at g; rw [if_pos (by omega)]; exact g
    · rw [if_neg e2] at g; rw [if_neg (by omega)]; exact g
theorem markStrs_int (x : Int) (k : Nat) (hx : x = (k : Int)) (xs : List ByteArray) (v : Value) (bs : List Nat) (w : World) (hk : 1 ≤ k) (hkb : k + cRep xs ≤ 4611686018427387904) (hv : OStrs w v xs bs) :
    Calls Tryz.prog 49 #[v, .int .i64 x] w fun e w' => e = .returned (.int .i64 ((k + cRep xs : Nat) : Int)) ∧ Only bs w w' ∧ OStrs w' v (mkRep k xs) bs := by
  subst hx
  exact markStrs_any xs v bs k w hk hkb hv

set_option maxHeartbeats 4000000 in
theorem markSesss_any (xs : List Sess) (v : Value) (bs : List Nat) (k : Nat) (w : World) (hk : 1 ≤ k) (hkb : k + cTbl xs ≤ 4611686018427387904) (hnd : bs.Nodup) (hv : OSesss w v xs bs) :
    Calls Tryz.prog 20 #[v, .int .i64 (k : Int)] w fun e w' => e = .returned (.int .i64 ((k + cTbl xs : Nat) : Int)) ∧ Only bs w w' ∧ OSesss w' v (mkTbl k xs) bs := by
  obtain ⟨hl, hv⟩ := hv
  rcases hv with ⟨a0, c0, rfl, rfl, rfl⟩ | ⟨b, off, cap, bss, rfl, hlt, rfl, hlen, hc⟩
  · go_enter Tryz.func20, Tryz.ntmps20
    go_wp2
    go_loop [1, 5] (fun r i => r = .int .i64 (k : Int) ∧ i = .int .i64 0) (fun _ _ => 0)
    case atStart => exact ⟨rfl, rfl⟩
    case round =>
      obtain ⟨rfl, rfl⟩ := hrel
      go_wp2
      go_ret
      exact ⟨ret_int (by simp [cTbl, sumOf]), Only.refl _ _, ⟨by simp [mkTbl, mkL], .inl ⟨_, _, rfl, rfl, rfl⟩⟩⟩
  · have hmix0 : MixT k w b off xs bss 0 := fun i hi h2 => by rw [if_neg (by omega)]; exact hc i hi h2
    have HCF : Hid (cTbl xs = sumOf cSess xs) := rfl
    have HMIX0 := hide hmix0
    clear hc hmix0
    go_enter Tryz.func20, Tryz.ntmps20
    go_wp2
    go_loopw [1, 5] (fun r i w1 => ∃ j K : Nat, j ≤ xs.length ∧ K = k + sumOf cSess (xs.take j) ∧ i = .int .i64 j ∧ r = .int .i64 (K : Int) ∧ MixT k w1 b off xs bss j ∧ Only (b :: bss.flatten) w w1) (fun _ i _ => xs.length - (intOf i).toNat)
    case atStart => exact ⟨0, k, Nat.zero_le _, by simp [sumOf], rfl, rfl, HMIX0.out, Only.refl _ _⟩
    case round =>
      obtain ⟨j, K, hj, hK, rfl, rfl, hmix, ho⟩ := hrel
      by_cases hj2 : j < xs.length
      · have hbl : b < wr.heap.size := Nat.lt_of_lt_of_le hlt ho.size
        have hjb : j < bss.length := by omega
        obtain ⟨ve, hC, _, _, hO⟩ := hmix j hj2 hjb
        rw [if_neg (by omega)] at hO hC
        have hcs : cSess xs[j] = 6 + cRep xs[j].rows := rfl
        have hst := sum_take cSess xs j hj2
        have hsl := sum_le cSess xs (j + 1)
        have hcf := HCF.out
        have hroom : K + 6 + cRep xs[j].rows ≤ 4611686018427387904 := by omega
        have hK1 : 1 ≤ K := by omega
        have HST : Hid (k + sumOf cSess (xs.take (j + 1)) = K + 6 + cRep xs[j].rows) := by show _ = _; omega
        have HM : Hid (∀ w9, Upd bss[j] b (off + j * 7) wr w9 → SessO w9 b (off + j * 7) (mkSess K xs[j]) bss[j] → MixT k w9 b off xs bss (j + 1)) := fun w9 h1 h2 => hmix.step hnd hj2 hjb h1 (by rw [← hK]; exact h2)
        have HO := hide ho
        have hnb : b ∉ bss[j] := fun hm => (List.nodup_cons.1 hnd).1 (by rw [List.mem_flatten]; exact ⟨_, List.getElem_mem hjb, hm⟩)
        have HSUB := hide (sub_flat hjb b)
        obtain ⟨bj, hbj⟩ : ∃ l, bss[j] = l := ⟨_, rfl⟩
        rw [hbj] at hO HM hnb HSUB
        have HNB := hide hnb
        obtain ⟨x, hx⟩ : ∃ x, xs[j] = x := ⟨_, rfl⟩
        rw [hx] at hO hC HM HST hroom
        obtain ⟨a2, cap2, rfl, _⟩ := (OAt.toAt toAt_str hO (lo := 0) (fun _ _ => Nat.zero_le _)).form
        obtain ⟨nr, hnr⟩ : ∃ n, x.rows.length = n := ⟨_, rfl⟩
        rw [hnr] at hO hC
        obtain ⟨cr, hcr⟩ : ∃ n, cRep x.rows = n := ⟨_, rfl⟩
        have HCR := hide hcr
        rw [hcr] at hroom HST
        have HOO := hide hO
        have HC0 := hide hC
        have c0 : wr.cell? ⟨b, off + j * 7, none⟩ = some (.int .i64 x.client) := (hC 0 (by omega)).1
        have f0 : wr.frozen? ⟨b, off + j * 7, none⟩ = false := (hC 0 (by omega)).2
        clear hmix ho hO hst hsl hcf hcs hK hC hnb hbj hx hnr hcr
        go_wp2_with fail
        refine (markText_int _ (K + 1) (by omega) _ (by omega) (by omega)).mono ?_
        rintro e w2 ⟨rfl, hb2⟩
        have HC1 := hide ((HC0.out.put (q := 0) (by omega) _).below hb2 (by rw [Deep.nblk_setCell]; exact hbl))
        have HU1 := hide (((Upd.refl [] b (off + j * 7) wr).set (q := 0) (by omega) _).below hb2 (by rw [Deep.nblk_setCell]; exact hbl))
        have hbl2 : b < w2.heap.size := Nat.lt_of_lt_of_le hbl HU1.out.only.size
        have c1 := (HC1.out 1 (by omega)).1
        have f1 := (HC1.out 1 (by omega)).2
        clear hb2 c0 f0
        go_wp2_with fail
        refine (markText_int _ (K + 2) (by omega) _ (by omega) (by omega)).mono ?_
        rintro e w3 ⟨rfl, hb3⟩
        have HC2 := hide ((HC1.out.put (q := 1) (by omega) _).below hb3 (by rw [Deep.nblk_setCell]; exact hbl2))
        have HU2 := hide ((HU1.out.set (q := 1) (by omega) _).below hb3 (by rw [Deep.nblk_setCell]; exact hbl2))
        have hbl3 : b < w3.heap.size := Nat.lt_of_lt_of_le hbl HU2.out.only.size
        have d2 := (HC2.out 2 (by omega)).1
        have g2 := (HC2.out 2 (by omega)).2
        have d3 := (HC2.out 3 (by omega)).1
        have g3 := (HC2.out 3 (by omega)).2
        have d4 := (HC2.out 4 (by omega)).1
        have g4 := (HC2.out 4 (by omega)).2
        have d5 : w3.cell? ⟨b, off + j * 7 + 5, none⟩ = some (.slice a2 nr cap2) := (HC2.out 5 (by omega)).1
        clear hb3 c1 f1
        go_wp2_with fail
        obtain ⟨W, hW⟩ : ∃ W, ((w3.setCell ⟨b, off + j * 7 + 2, none⟩ (.string (markT (K + 2)))).setCell ⟨b, off + j * 7 + 3, none⟩ (.int .i64 ((K : Int) + 1 + 1 + 1))).setCell ⟨b, off + j * 7 + 4, none⟩ (.int .i64 ((K : Int) + 1 + 1 + 1 + 1)) = W := ⟨_, rfl⟩
        have hCW : Cells W b (off + j * 7) 7 (fun x_1 => if x_1 = 4 then .int .i64 ((K : Int) + 1 + 1 + 1 + 1) else if x_1 = 3 then .int .i64 ((K : Int) + 1 + 1 + 1) else if x_1 = 2 then .string (markT (K + 2)) else if x_1 = 1 then .string (markT (K + 1)) else if x_1 = 0 then .int .i64 (K : Int) else sC x (.slice a2 nr cap2) x_1) := by
          rw [← hW]
          exact ((HC2.out.put (q := 2) (by omega) _).put (q := 3) (by omega) _).put (q := 4) (by omega) _
        have hUW : Upd [] b (off + j * 7) wr W := by
          rw [← hW]
          exact ((HU2.out.set (q := 2) (by omega) _).set (q := 3) (by omega) _).set (q := 4) (by omega) _
        rw [hW]
        have hblW : b < W.heap.size := Nat.lt_of_lt_of_le hbl hUW.only.size
        have HCW := hide hCW
        have HUW := hide hUW
        have HOW : Hid (OStrs W (.slice a2 nr cap2) x.rows bj) := hUW.rows HOO.out fun c hc hm => by
          rw [List.mem_singleton.1 hm] at hc
          exact HNB.out hc
        clear hW hCW hUW d2 d3 d4 d5 g2 g3 g4
        refine (markStrs_int _ (K + 5) (by omega) x.rows _ bj _ (by omega) (by rw [HCR.out]; omega) HOW.out).mono ?_
        rintro e w4 ⟨rfl, ho4, hO4⟩
        have HC4 := hide (HCW.out.same (ho4.block b hblW HNB.out))
        have HU4 := hide ((HUW.out.wide bj).on ho4 hblW HNB.out)
        have HO4 := hide hO4
        have d6 := (HC4.out 6 (by omega)).1
        have g6 := (HC4.out 6 (by omega)).2
        have hbl4 : b < w4.heap.size := Nat.lt_of_lt_of_le hblW ho4.size
        rw [HCR.out]
        clear ho4 hO4
        go_wp2_with fail
        go_roundw
        case rel =>
          refine ⟨j + 1, K + 6 + cr, by omega, HST.out.symm, by go_num, by go_num, HM.out _ (HU4.out.set (q := 6) (by omega) _) ?_, ?_⟩
          · refine ⟨.slice a2 nr cap2, ((HC4.out.put (q := 6) (by omega) _).congr fun i hi => ?_), ?_, ?_, ?_⟩
            · obtain rfl | rfl | rfl | rfl | rfl | rfl | rfl : i = 0 ∨ i = 1 ∨ i = 2 ∨ i = 3 ∨ i = 4 ∨ i = 5 ∨ i = 6 := by omega
              · rfl
              · rfl
              · rfl
              · exact int_same (by show _ = ((K + 3 : Nat) : Int); omega)
              · exact int_same (by show _ = ((K + 4 : Nat) : Int); omega)
              · rfl
              · refine int_same ?_
                show _ = ((K + 5 + cRep x.rows : Nat) : Int)
                rw [HCR.out]
                omega
            · exact Nat.le_trans (markT_size (K + 1) (by omega)) (by omega)
            · exact Nat.le_trans (markT_size (K + 2) (by omega)) (by omega)
            · exact OAt.kept keptO_str HO4.out (by rw [Deep.nblk_setCell]; exact Nat.le_refl _) fun d hd => Deep.blk_setCell_other _ ⟨b, off + j * 7 + 6, none⟩ _ d (fun e2 => HNB.out (by have e3 : d = b := e2; rw [← e3]; exact hd))
          · exact HO.out.trans ((HU4.out.set (q := 6) (by omega) _).only.mono fun c hc => by
              rcases List.mem_cons.1 hc with rfl | hc
              · simp
              · exact HSUB.out c hc)
        case measure => simp [intOf]; omega
      · obtain rfl : j = xs.length := by omega
        go_wp2_with fail
        go_ret
        refine ⟨ret_int (by rw [HCF.out, hK, List.take_length]), ho, ⟨by unfold mkTbl; rw [mkL_len]; exact hl, .inr ⟨b, off, cap, bss, by unfold mkTbl; rw [mkL_len], Nat.lt_of_lt_of_le hlt ho.size, rfl, by unfold mkTbl; rw [mkL_len]; exact hlen, fun i hi h2 => ?_⟩⟩⟩
        have hi' : i < xs.length := by unfold mkTbl at hi; rw [mkL_len] at hi; exact hi
        have h3 := hmix i hi' h2
        rw [if_pos hi'] at h3
        have e1 : (mkTbl k xs)[i] = mkSess (k + sumOf cSess (xs.take i)) xs[i] := mkL_get mkSess cSess _ k xs i hi' hi
        rw [e1]
        exact h3
set_option maxHeartbeats 400000 in
theorem markTbl_any (xs : List Sess) (v : Value) (bs : List Nat) (k : Nat) (w : World) (hk : 1 ≤ k) (hkb : k + cTbl xs ≤ 4611686018427387904) (hnd : bs.Nodup) (hv : OSesss w v xs bs) :
    Calls Tryz.prog 7 #[.agg #[v], .int .i64 (k : Int)] w fun e w' => e = .returned (.int .i64 ((k + cTbl xs : Nat) : Int)) ∧ Only bs w w' ∧ OSesss w' v (mkTbl k xs) bs := by
  have hb := (Below.refl w.heap.size w).alloc (Nat.le_refl _) (Obj.cells #[v] 24)
  have hv1 : OSesss (w.alloc (Obj.cells #[v] 24)) v xs bs := OAt.kept keptO_sess hv hb.size fun c hc => hb.block c (OAt.lt ltO_sess hv c hc)
  go_enter Tryz.func7, Tryz.ntmps7
  go_wp2_with fail
  refine (markSesss_any xs v bs k _ hk hkb hnd hv1).mono ?_
  rintro e w' ⟨rfl, ho, hO⟩
  go_wp2_with fail
  go_ret
  exact ⟨rfl, (Only.of_below hb).trans ho, hO⟩
end Go.Proofs.YtpmnepalchgcbaaGreatDoor.Msg

namespace Go.Proofs.YtpmnepalchgcbaaGreatDoor.Msg
open Go.ChangeShapes Go.WideShapes Go.ChangeAt Go.RowKit
set_option linter.unusedVariables false
set_option linter.unusedSimpArgs false

/-! toStringS: what it makes is owned -/
theorem ostrs_of_row {W : World} {B : Nat} {xs : List ByteArray} (hl : xs.length ≤ 9223372036854775807) (hz : ∀ i (h : i < xs.length), xs[i].size ≤ 9223372036854775807) (h : W.rowIs B 9 xs.length (strsRow xs xs.length)) (hlt : B < W.heap.size) :
    OStrs W (.slice (some ⟨B, 0, none⟩) xs.length xs.length) xs [B] := by
  refine ⟨hl, .inr ⟨B, 0, xs.length, List.replicate xs.length [], rfl, hlt, ?_, by simp, ?_⟩⟩
  · have : (List.replicate xs.length ([] : List Nat)).flatten = [] := by simp
    rw [this]
  · intro i hi h2
    refine ⟨?_, ?_, hz i hi, by simp⟩
    · have := h.cell hi
      simp only [Nat.zero_add, Nat.mul_one]
      rw [this]
      simp [strsRow, hi]
    · simpa using h.frozen i

end Go.Proofs.YtpmnepalchgcbaaGreatDoor.Msg
