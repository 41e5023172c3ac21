import Derived.Test.YtcphfhfockjljaaDoorImplSegCut
import Derived.Test.YtcphfhfockjljaaDoorImplInwithImplSegInwithImplMsgL
import Derived.Test.YtcphfhfockjljaaDoorImplMsgInwithImplEncodewithParsePieces
import Derived.Test.YtcphfhfockjljaaDoorParseUnescwithSegBufwithCutPure
import Derived.Test.YtcphfhfockjljaaDoorMarkMsgwithListBuf
namespace Go.Proofs.YtcphfhfockjljaaDoor.Msg
set_option linter.unusedVariables false
set_option linter.unusedSimpArgs false

theorem all_same {α : Type} {p q : α → Bool} : ∀ (xs : List α), (∀ x ∈ xs, p x = q x) → xs.all p = xs.all q
  | [], _ => rfl
  | x :: xs, h => by
    rw [List.all_cons, List.all_cons, h x (by simp), all_same xs (fun y hy => h y (by simp [hy]))]
theorem keepN_last {α : Type} (p : α → Bool) : ∀ (xs : List α) (n : Nat), keepN p xs = n + 1 → ∃ h : n < xs.length, p xs[n] = false
  | [], n, h => by simp [keepN] at h
  | x :: xs, n, h => by
    simp only [keepN] at h
    cases hk : keepN p xs with
    | zero =>
      rw [hk] at h
      by_cases hp : p x = true
      · simp [hp] at h
      · have : n = 0 := by simp [hp] at h; omega
        subst this
        exact ⟨by simp, by simpa using hp⟩
    | succ m =>
      rw [hk] at h
      have : n = m + 1 := by simp at h; omega
      subst this
      obtain ⟨h1, h2⟩ := keepN_last p xs m hk
      exact ⟨by simp; omega, by simpa using h2⟩
theorem endB_trim {α β : Type} (f : List α → β) (g : β → Nat) (hg : ∀ x, x.isEmpty = false → 0 < g (f x)) (xs : List (List α)) : endB g ((trimE List.isEmpty xs).map f) = true := by
  unfold trimE
  cases hk : keepN List.isEmpty xs with
  | zero => rw [List.take_zero]; rfl
  | succ n =>
    obtain ⟨h1, h2⟩ := keepN_last _ xs n hk
    have hl : ((xs.take (n + 1)).map f).length = n + 1 := by rw [List.length_map, List.length_take]; omega
    rw [endB_at _ _ (by rw [hl]; omega)]
    have e : ((xs.take (n + 1)).map f)[((xs.take (n + 1)).map f).length - 1]'(by rw [hl]; omega) = f xs[n] := by
      simp only [hl, Nat.add_sub_cancel, List.getElem_map, List.getElem_take]
    rw [e]
    exact decide_eq_true (hg _ h2)
theorem csB_trim {α β : Type} (lim : Nat) (f : List α → β) (g : β → Nat) (hg : ∀ x, x.isEmpty = false → 0 < g (f x)) (xs : List (List α)) : csB lim g ((trimE List.isEmpty xs).map f) = decide (((trimE List.isEmpty xs).map f).length ≤ lim) := by
  unfold csB
  rw [endB_trim f g hg xs, Bool.and_true]

theorem cutGo_mem (c : UInt8) : ∀ (l cur p : List UInt8), p ∈ cutGo c cur l → ∀ x ∈ p, x ∈ cur ∨ x ∈ l
  | [], cur, p, h, x, hx => by
    simp only [cutGo, List.mem_singleton] at h
    subst h
    exact .inl hx
  | y :: l, cur, p, h, x, hx => by
    unfold cutGo at h
    split at h
    · rw [List.mem_cons] at h
      rcases h with rfl | h
      · exact .inl hx
      · rcases cutGo_mem c l [] p h x hx with h1 | h1
        · cases h1
        · exact .inr (by simp [h1])
    · rcases cutGo_mem c l (cur ++ [y]) p h x hx with h1 | h1
      · rw [List.mem_append, List.mem_singleton] at h1
        rcases h1 with h1 | h1
        · exact .inl h1
        · exact .inr (by simp [h1])
      · exact .inr (by simp [h1])
theorem cutL_mem (c : UInt8) (l p : List UInt8) (h : p ∈ cutL c l) : ∀ x ∈ p, x ∈ l := fun x hx => by
  rcases cutGo_mem c l [] p h x hx with h1 | h1
  · cases h1
  · exact h1

theorem fieldsI_eq (d0 d1 d2 : UInt8) (l : List UInt8) (h : l.head?.any (fun c => c != d0) = false) : fieldsI d0 d1 d2 l = fieldsL d0 d1 d2 l := by
  cases l with
  | nil => rfl
  | cons x l =>
    have hx : x = d0 := by simpa using h
    subst hx
    show trimE List.isEmpty (((cutL x (x :: l)).drop 1).map (repsL d1 d2)) = trimE List.isEmpty ((cutL x l).map (repsL d1 d2))
    have e : cutL x (x :: l) = [] :: cutL x l := by
      unfold cutL
      conv => lhs; unfold cutGo
      rw [if_pos rfl]
    rw [e]
    rfl

/-- inOrder of a segment that was cut, where all of it is plain -/
theorem segI_cut (name : ByteArray) (hn : nameB name = true) (d0 d1 d2 : UInt8) (l : List UInt8) (hl : l.length ≤ 40000) (hp : ∀ x ∈ l, plainC x = true) :
    segI ⟨name, (fieldsI d0 d1 d2 l).map fieldT⟩ = !longB ((fieldsI d0 d1 d2 l).map fieldT) := by
  have hcomp : ∀ p, (∀ x ∈ p, x ∈ l) → p.length ≤ 40000 → ∀ t ∈ compsL d1 p, compI (txt t) = true := fun p h1 h2 t ht => by
    have hm : t ∈ cutL d1 p := trimE_mem ht
    have h3 := cutL_sz d1 p t hm
    unfold compI plainB
    rw [txt_size, decide_eq_true (by omega), Bool.true_and, txt_data, List.all_eq_true]
    intro x hx
    exact hp x (h1 x (cutL_mem d1 p t hm x hx))
  have hrep : ∀ p, (∀ x ∈ p, x ∈ l) → p.length ≤ 40000 → repI (repT (compsL d1 p)) = repLB (repT (compsL d1 p)) := fun p h1 h2 => by
    unfold repI repLB
    have hc : csB 20 ByteArray.size (repT (compsL d1 p)) = decide ((repT (compsL d1 p)).length ≤ 20) := csB_trim 20 txt ByteArray.size (fun x hx => by
      rw [txt_size]
      cases x with
      | nil => cases hx
      | cons y x => simp) (cutL d1 p)
    rw [hc]
    have ha : (repT (compsL d1 p)).all compI = true := by
      rw [List.all_eq_true]
      intro c hc
      unfold repT at hc
      rw [List.mem_map] at hc
      obtain ⟨t, ht, rfl⟩ := hc
      exact hcomp p h1 h2 t ht
    rw [ha, Bool.and_true]
  have hfield : ∀ p, (∀ x ∈ p, x ∈ l) → p.length ≤ 40000 → fieldI (fieldT (repsL d1 d2 p)) = fldLB (fieldT (repsL d1 d2 p)) := fun p h1 h2 => by
    unfold fieldI fldLB
    have hc : csB 30 List.length (fieldT (repsL d1 d2 p)) = decide ((fieldT (repsL d1 d2 p)).length ≤ 30) := csB_trim 30 repT List.length (fun x hx => by
      cases x with
      | nil => cases hx
      | cons y x => simp [repT]) ((cutL d2 p).map (compsL d1))
    rw [hc]
    congr 1
    have ha : ∀ r ∈ fieldT (repsL d1 d2 p), repI r = repLB r := fun r hr => by
      unfold fieldT at hr
      rw [List.mem_map] at hr
      obtain ⟨y, hy, rfl⟩ := hr
      have hy := trimE_mem hy
      rw [List.mem_map] at hy
      obtain ⟨z, hz, rfl⟩ := hy
      exact hrep z (fun x hx => h1 x (cutL_mem d2 p z hz x hx)) (by have := cutL_sz d2 p z hz; omega)
    exact all_same _ ha
  unfold segI longB
  have hc : csB 30 List.length ((fieldsI d0 d1 d2 l).map fieldT) = decide (((fieldsI d0 d1 d2 l).map fieldT).length ≤ 30) := csB_trim 30 fieldT List.length (fun x hx => by
    cases x with
    | nil => cases hx
    | cons y x => simp [fieldT]) (((cutL d0 l).drop 1).map (repsL d1 d2))
  have ha : ∀ f ∈ (fieldsI d0 d1 d2 l).map fieldT, fieldI f = fldLB f := fun f hf => by
    rw [List.mem_map] at hf
    obtain ⟨y, hy, rfl⟩ := hf
    have hy := trimE_mem hy
    rw [List.mem_map] at hy
    obtain ⟨z, hz, rfl⟩ := hy
    have hz := List.mem_of_mem_drop hz
    exact hfield z (fun x hx => cutL_mem d0 l z hz x hx) (by have := cutL_sz d0 l z hz; omega)
  have hb : ((fieldsI d0 d1 d2 l).map fieldT).all fieldI = ((fieldsI d0 d1 d2 l).map fieldT).all fldLB := all_same _ ha
  show (nameB name && (csB 30 List.length ((fieldsI d0 d1 d2 l).map fieldT) && ((fieldsI d0 d1 d2 l).map fieldT).all fieldI)) = _
  rw [hn, hc, hb, Bool.true_and, Bool.not_or, Bool.not_not]
  congr 1
  by_cases h : ((fieldsI d0 d1 d2 l).map fieldT).length ≤ 30
  · rw [decide_eq_true h, decide_eq_false (by omega)]; rfl
  · rw [decide_eq_false h, decide_eq_true (by omega)]; rfl
end Go.Proofs.YtcphfhfockjljaaDoor.Msg

namespace Go.Proofs.YtcphfhfockjljaaDoor.Msg
open Go.ChangeShapes Go.WideShapes Go.ChangeAt Go.RowKit
set_option linter.unusedVariables false
set_option linter.unusedSimpArgs false

/-- what startsSegment says of a piece that is not the first -/
def startB (p : List UInt8) (m : UInt8) : Bool := decide (3 ≤ p.length) && (nameB (txt (p.take 3)) && (!(p.take 3 == [77, 83, 72]) && !((p.drop 3).head?.any (fun c => c != m))))

theorem txt_at (p : List UInt8) (i : Nat) (h : i < (txt p).size) (h2 : i < p.length) : (txt p)[i]'h = p[i]'h2 := by
  show (txt p).data[i]'h = p[i]
  simp [txt]
theorem start_cmp (p : List UInt8) (m : UInt8) (h : 3 < (txt p).size) : (!((p.drop 3).head?.any (fun c => c != m))) = ((((txt p)[3]'h).toNat : Int) == (m.toNat : Int)) := by
  have hp : 3 < p.length := by rw [txt_size] at h; exact h
  have e : (p.drop 3).head? = some (p[3]'hp) := by rw [List.head?_drop, List.getElem?_eq_getElem hp]
  rw [e, txt_at p 3 h hp]
  generalize p[3]'hp = x
  show (!(x != m)) = _
  by_cases hx : x = m
  · rw [hx]; simp
  · have h1 : (x != m) = true := by rw [bne_iff_ne]; exact hx
    rw [h1]
    symm
    show _ = false
    rw [beq_eq_false_iff_ne]
    intro h2
    exact hx (UInt8.toNat_inj.1 (by omega))
set_option maxHeartbeats 2000000 in
theorem starts_any (p : List UInt8) (i : Nat) (m : UInt8) (w : World) (hp : p.length ≤ 40000) (hi : i ≤ 1048576) :
    Calls Tryd.prog 36 #[.string (txt p), .int .i64 (i : Int), .int .u8 (m.toNat : Int)] w fun e w' => e = .returned (.bool (decide (i = 0) || startB p m)) ∧ w' = w := by
  have HTS := hide (txt_size p)
  have hps : (txt p).size ≤ 40000 := by rw [txt_size]; exact hp
  have HSB : Hid (startB p m = (decide (3 ≤ p.length) && (nameB (txt (p.take 3)) && (!(p.take 3 == [77, 83, 72]) && !((p.drop 3).head?.any (fun c => c != m)))))) := rfl
  by_cases hi0 : i = 0
  · have hi' : ((i : Int) == 0) = true := by rw [beq_iff_eq]; omega
    have HX : Hid ((decide (i = 0) || startB p m) = true) := by rw [decide_eq_true hi0]; rfl
    clear hi0
    go_enter Tryd.func36, Tryd.ntmps36
    go_wp2_with fail
    go_ret
    exact ⟨ret_bool HX.out.symm, rfl⟩
  have hi' : ((i : Int) == 0) = false := by rw [beq_eq_false_iff_ne]; omega
  have HX0 : Hid ((decide (i = 0) || startB p m) = startB p m) := by rw [decide_eq_false hi0]; rfl
  clear hi0
  by_cases h3 : ((txt p).size : Int) < 3
  · have HX : Hid (startB p m = false) := by rw [HSB.out, decide_eq_false (p := 3 ≤ p.length) (by have := HTS.out; omega)]; rfl
    go_enter Tryd.func36, Tryd.ntmps36
    go_wp2_with fail
    go_ret
    exact ⟨ret_bool (by rw [HX0.out, HX.out]), rfl⟩
  have h3' : (3 : Int) ≤ ((txt p).size : Int) := by omega
  have HTN := hide (txt_name p)
  have hns : ((txt p).extract 0 3).size ≤ 9223372036854775807 := by rw [ByteArray.size_extract]; omega
  have HS1 : Hid (startB p m = (nameB ((txt p).extract 0 3) && (!(((txt p).extract 0 3).toList == [77, 83, 72]) && !((p.drop 3).head?.any (fun c => c != m))))) := by
    rw [HSB.out, decide_eq_true (p := 3 ≤ p.length) (by have := HTS.out; omega), Bool.true_and, HTN.out, txt_toList]; trivial
  cases hnb : nameB ((txt p).extract 0 3)
  · have HX : Hid (startB p m = false) := by rw [HS1.out, hnb]; rfl
    have HNB := hide hnb
    clear hnb
    go_enter Tryd.func36, Tryd.ntmps36
    go_wp2_with fail
    refine (isSegmentName_any _ _ hns).mono ?_
    rintro e w2 ⟨rfl, rfl⟩
    rw [HNB.out]
    go_wp2_with fail
    go_ret
    exact ⟨ret_bool (by rw [HX0.out, HX.out]), rfl⟩
  have HNB := hide hnb
  cases hmm : (((txt p).extract 0 3).toList == [77, 83, 72])
  · have HS2 : Hid (startB p m = !((p.drop 3).head?.any (fun c => c != m))) := by rw [HS1.out, hnb, hmm]; rfl
    clear hnb
    by_cases h33 : (txt p).size = 3
    · have h33' : (((txt p).size : Int) == 3) = true := by rw [beq_iff_eq]; omega
      have HX : Hid (startB p m = true) := by
        rw [HS2.out, List.drop_eq_nil_of_le (by have := HTS.out; omega)]; rfl
      clear h33
      go_enter Tryd.func36, Tryd.ntmps36
      go_wp2_with fail
      refine (isSegmentName_any _ _ hns).mono ?_
      rintro e w2 ⟨rfl, rfl⟩
      rw [HNB.out]
      go_wp2_with fail
      go_ret
      exact ⟨ret_bool (by rw [HX0.out, HX.out]), rfl⟩
    · have h33' : (((txt p).size : Int) == 3) = false := by rw [beq_eq_false_iff_ne]; omega
      have h34 : (3 : Int) < ((txt p).size : Int) := by omega
      have h34n : 3 < (txt p).size := by omega
      have HX : Hid (startB p m = ((((txt p)[3]'h34n).toNat : Int) == (m.toNat : Int))) := by rw [HS2.out]; exact start_cmp p m h34n
      clear h33
      go_enter Tryd.func36, Tryd.ntmps36
      go_wp2_with fail
      refine (isSegmentName_any _ _ hns).mono ?_
      rintro e w2 ⟨rfl, rfl⟩
      rw [HNB.out]
      go_wp2_with fail
      go_ret
      exact ⟨ret_bool (by rw [HX0.out, HX.out]), rfl⟩
  · have HX : Hid (startB p m = false) := by rw [HS1.out, hnb, hmm]; rfl
    clear hnb
    go_enter Tryd.func36, Tryd.ntmps36
    go_wp2_with fail
    refine (isSegmentName_any _ _ hns).mono ?_
    rintro e w2 ⟨rfl, rfl⟩
    rw [HNB.out]
    go_wp2_with fail
    go_ret
    exact ⟨ret_bool (by rw [HX0.out, HX.out]), rfl⟩
end Go.Proofs.YtcphfhfockjljaaDoor.Msg

namespace Go.Proofs.YtcphfhfockjljaaDoor.Msg
open Go.ChangeShapes Go.WideShapes Go.ChangeAt Go.RowKit
set_option linter.unusedVariables false
set_option linter.unusedSimpArgs false

/-! one element of an owned list is put anew -/
theorem strs_upd {w : World} {v : Value} {xs : List ByteArray} {bs : List Nat} (h : OStrs w v xs bs) {i : Nat} (hi : i < xs.length) :
    ∃ b off cap, v = .slice (some ⟨b, off, none⟩) xs.length cap ∧ b < w.heap.size ∧ b ∈ bs ∧ w.cell? ⟨b, off + i, none⟩ = some (.string xs[i]) ∧ w.frozen? ⟨b, off + i, none⟩ = false ∧
      ∀ (w2 : World) (t : ByteArray), t.size ≤ 9223372036854775807 → Below w.heap.size w w2 → OStrs (w2.setCell ⟨b, off + i, none⟩ (.string t)) v (xs.set i t) bs ∧ Only bs w (w2.setCell ⟨b, off + i, none⟩ (.string t)) := by
  obtain ⟨hl, ⟨a0, c0, rfl, rfl, rfl⟩ | ⟨b, off, cap, bss, rfl, hlt, rfl, hlen, hc⟩⟩ := h
  · simp at hi
  · refine ⟨b, off, cap, rfl, hlt, by simp, by simpa using (hc i hi (by omega)).1, by simpa using (hc i hi (by omega)).2.1, fun w2 t ht hb => ⟨⟨by simpa using hl, .inr ⟨b, off, cap, bss, by rw [List.length_set], by rw [Deep.nblk_setCell]; exact Nat.lt_of_lt_of_le hlt hb.size, rfl, by rw [List.length_set]; exact hlen, fun j hj h2 => ?_⟩⟩, (Only.of_below hb).setCell (by simp) _⟩⟩
    have hj' : j < xs.length := by simpa using hj
    obtain ⟨c1, c2, c3, c4⟩ := hc j hj' h2
    have d1 : w2.cell? ⟨b, off + j * 1, none⟩ = some (.string xs[j]) := by rw [hb.cell (p := ⟨b, off + j * 1, none⟩) hlt]; exact c1
    have d2 : w2.frozen? ⟨b, off + j * 1, none⟩ = false := by rw [hb.frozen (p := ⟨b, off + j * 1, none⟩) hlt]; exact c2
    by_cases e : j = i
    · subst e
      rw [List.getElem_set_self]
      rw [Nat.mul_one] at d1 d2 ⊢
      exact ⟨World.cell?_setCell_same _ _ _ d1, by rw [World.frozen?_setCell]; exact d2, ht, c4⟩
    · rw [List.getElem_set_ne (by omega)]
      refine ⟨?_, by rw [World.frozen?_setCell]; exact d2, c3, c4⟩
      rw [World.cell?_setCell_other _ _ _ _ (by intro h; injection h with _ h2 _; omega)]
      exact d1

theorem list_upd {α : Type} {O : World → Value → α → List Nat → Prop} (hkeep : ∀ w w' v x bs, O w v x bs → w.heap.size ≤ w'.heap.size → (∀ d ∈ bs, w'.heap[d]? = w.heap[d]?) → O w' v x bs) (hltO : ∀ w v x bs, O w v x bs → ∀ d ∈ bs, d < w.heap.size)
    {w : World} {v : Value} {xs : List α} {bs : List Nat} (h : OAt 1 (fun w b off x bs => ∃ v, w.cell? ⟨b, off, none⟩ = some v ∧ O w v x bs) w v xs bs) (hnd : bs.Nodup) {i : Nat} (hi : i < xs.length) :
    ∃ b off cap ve bs', v = .slice (some ⟨b, off, none⟩) xs.length cap ∧ b < w.heap.size ∧ b ∉ bs' ∧ (∀ c ∈ bs', c ∈ bs) ∧ bs'.Nodup ∧ w.cell? ⟨b, off + i, none⟩ = some ve ∧ O w ve xs[i] bs' ∧
      ∀ (w2 : World) (y : α), Only bs' w w2 → O w2 ve y bs' → OAt 1 (fun w b off x bs => ∃ v, w.cell? ⟨b, off, none⟩ = some v ∧ O w v x bs) w2 v (xs.set i y) bs := by
  obtain ⟨hl, ⟨a0, c0, rfl, rfl, rfl⟩ | ⟨b, off, cap, bss, rfl, hlt, rfl, hlen, hc⟩⟩ := h
  · simp at hi
  · have hib : i < bss.length := by omega
    obtain ⟨ve, g1, g2⟩ := hc i hi hib
    have hn := hnd
    rw [List.nodup_cons] at hn
    have hbi : b ∉ bss[i] := fun hm => hn.1 (by rw [List.mem_flatten]; exact ⟨_, List.getElem_mem hib, hm⟩)
    refine ⟨b, off, cap, ve, bss[i], rfl, hlt, hbi, sub_flat hib b, nodup_at hnd hib, by simpa using g1, g2, fun w2 y ho hO => ⟨by simpa using hl, .inr ⟨b, off, cap, bss, by rw [List.length_set], Nat.lt_of_lt_of_le hlt ho.size, rfl, by rw [List.length_set]; exact hlen, fun j hj h2 => ?_⟩⟩⟩
    have hj' : j < xs.length := by simpa using hj
    have hrow := ho.block b hlt hbi
    by_cases e : j = i
    · subst e
      rw [List.getElem_set_self]
      exact ⟨ve, by rw [cellSame hrow]; exact g1, hO⟩
    · rw [List.getElem_set_ne (by omega)]
      obtain ⟨vj, k1, k2⟩ := hc j hj' h2
      exact ⟨vj, by rw [cellSame hrow]; exact k1, hkeep _ w2 _ _ _ k2 ho.size fun dd hd => ho.block dd (hltO _ _ _ _ k2 dd hd) (disj_of hn.2 h2 hib e hd)⟩

/-- the first j are read, the rest as they were -/
theorem set_mid {α : Type} (ys xs : List α) (j : Nat) (hj : j < xs.length) (hl : ys.length = j) (y : α) : (ys ++ xs.drop j).set j y = (ys ++ [y]) ++ xs.drop (j + 1) := by
  subst hl
  rw [List.set_append_right _ _ (Nat.le_refl _), Nat.sub_self, List.drop_eq_getElem_cons hj, List.set_cons_zero]
  simp
theorem at_mid {α : Type} (ys xs : List α) (j : Nat) (hj : j < xs.length) (hl : ys.length = j) (h : j < (ys ++ xs.drop j).length) : (ys ++ xs.drop j)[j] = xs[j] := by
  subst hl
  rw [List.getElem_append_right (Nat.le_refl _)]
  simp
theorem len_mid {α : Type} (ys xs : List α) (j : Nat) (hj : j ≤ xs.length) (hl : ys.length = j) : (ys ++ xs.drop j).length = xs.length := by
  rw [List.length_append, List.length_drop]; omega
end Go.Proofs.YtcphfhfockjljaaDoor.Msg
