import Derived.Test.YtcphfhfockjljaaDoorSpoilKitwithDrawLong
import Derived.Test.YtcphfhfockjljaaDoorSpoil
import Derived.Test.YtcphfhfockjljaaDoorMsgEqwithMsgEq2withMsgTo
import Derived.Deep.LoopGhost
import Derived.Test.YtcphfhfockjljaaDoorFlatKitwithFlatAppwithBufKit
namespace Go.Proofs.YtcphfhfockjljaaDoor.Msg
open Go.ChangeShapes Go.WideShapes Go.ChangeAt Go.RowKit
set_option linter.unusedVariables false
set_option linter.unusedSimpArgs false

/-! what is drawn is small -/
theorem sumOf_le {α : Type} (f : α → Nat) (B : Nat) : ∀ (xs : List α), (∀ x ∈ xs, f x ≤ B) → sumOf f xs ≤ xs.length * B
  | [], _ => Nat.zero_le _
  | x :: xs, h => by
    have h1 := h x (List.mem_cons_self ..)
    have h2 := sumOf_le f B xs fun y hy => h y (List.mem_cons_of_mem _ hy)
    unfold sumOf at *
    rw [List.map_cons, List.sum_cons, List.length_cons, Nat.succ_mul]
    omega
theorem lenSum_le {α : Type} {f : α → Nat} {xs : List α} (n B : Nat) (hl : xs.length ≤ n) (h : ∀ x ∈ xs, f x ≤ B) : lenSum f xs ≤ n * B + n := by
  have h1 := sumOf_le f B xs h
  have h2 := Nat.mul_le_mul_right B hl
  unfold lenSum
  omega
theorem lenSum_app {α : Type} (f : α → Nat) (xs ys : List α) : lenSum f (xs ++ ys) = lenSum f xs + lenSum f ys := by
  unfold lenSum sumOf
  rw [List.length_append, List.map_append, List.sum_append]
  omega
theorem trimE_in {α : Type} {p : α → Bool} {xs : List α} {x : α} (h : x ∈ trimE p xs) : x ∈ xs := List.mem_of_mem_take h
theorem trimE_len {α : Type} (p : α → Bool) (xs : List α) : (trimE p xs).length ≤ xs.length := by unfold trimE; rw [List.length_take]; omega
theorem trimC_sz {r : Rep} (hl : r.length ≤ 3) (h : ∀ s ∈ r, s.size ≤ 3) : repSz (trimC r) ≤ 12 :=
  lenSum_le 3 3 (Nat.le_trans (trimE_len _ _) hl) fun x hx => h x (trimE_in hx)
theorem trimR_sz {f : Field} (hl : f.length ≤ 2) (h : ∀ r ∈ f, r.length ≤ 3 ∧ ∀ s ∈ r, s.size ≤ 3) : fieldSz (trimR f) ≤ 26 := by
  refine lenSum_le 2 12 (Nat.le_trans (trimE_len _ _) (by rw [List.length_map]; exact hl)) fun x hx => ?_
  obtain ⟨r, hr, rfl⟩ := List.mem_map.1 (trimE_in hx)
  exact trimC_sz (h r hr).1 (h r hr).2
theorem trimF_sz {fs : List Field} (hl : fs.length ≤ 4) (h : ∀ f ∈ fs, f.length ≤ 2 ∧ ∀ r ∈ f, r.length ≤ 3 ∧ ∀ s ∈ r, s.size ≤ 3) : lenSum fieldSz (trimF fs) ≤ 108 := by
  refine lenSum_le 4 26 (Nat.le_trans (trimE_len _ _) (by rw [List.length_map]; exact hl)) fun x hx => ?_
  obtain ⟨f, hf, rfl⟩ := List.mem_map.1 (trimE_in hx)
  exact trimR_sz (h f hf).1 (h f hf).2
theorem drRep_sm (cs : List UInt8) (p : Nat) : (drRep cs p).length ≤ 3 ∧ ∀ s ∈ drRep cs p, s.size ≤ 3 := by
  unfold drRep
  refine ⟨?_, fun s hs => ?_⟩
  · rw [List.length_map, List.length_range]; exact tk_le cs p 4 3 (by decide)
  · obtain ⟨x, _, rfl⟩ := List.mem_map.1 hs
    exact drComp_sz _ _
theorem drReps_sm (cs : List UInt8) (p : Nat) : ∀ n, ∀ r ∈ (drReps cs p n).1, r.length ≤ 3 ∧ ∀ s ∈ r, s.size ≤ 3
  | 0, r, hr => by cases hr
  | n + 1, r, hr => by
    rcases List.mem_append.1 (show r ∈ (drReps cs p n).1 ++ [drRep cs (drReps cs p n).2] from hr) with h | h
    · exact drReps_sm cs p n r h
    · rw [List.mem_singleton.1 h]; exact drRep_sm _ _
theorem drField_sm (cs : List UInt8) (p : Nat) : (drField cs p).1.length ≤ 2 ∧ ∀ r ∈ (drField cs p).1, r.length ≤ 3 ∧ ∀ s ∈ r, s.size ≤ 3 := by
  unfold drField
  exact ⟨by rw [drReps_len]; exact tk_le cs p 3 2 (by decide), drReps_sm _ _ _⟩
theorem drFields_sm (cs : List UInt8) (p : Nat) : ∀ n, ∀ f ∈ (drFields cs p n).1, f.length ≤ 2 ∧ ∀ r ∈ f, r.length ≤ 3 ∧ ∀ s ∈ r, s.size ≤ 3
  | 0, f, hf => by cases hf
  | n + 1, f, hf => by
    rcases List.mem_append.1 (show f ∈ (drFields cs p n).1 ++ [(drField cs (drFields cs p n).2).1] from hf) with h | h
    · exact drFields_sm cs p n f h
    · rw [List.mem_singleton.1 h]; exact drField_sm _ _
theorem drNames_sz (k : Nat) : (drNames.getD k ⟨#[]⟩).size ≤ 3 := by
  rw [List.getD_eq_getElem?_getD]
  by_cases h : k < drNames.length
  · rw [List.getElem?_eq_getElem h]
    exact (by decide : ∀ x ∈ drNames, x.size ≤ 3) _ (List.getElem_mem h)
  · rw [List.getElem?_eq_none (by omega)]; exact Nat.zero_le _
/-- a segment that is small -/
def SmSeg (s : Seg) : Prop := s.name.size ≤ 3 ∧ s.fields.length ≤ 4 ∧ lenSum fieldSz s.fields ≤ 108
theorem drSeg_sm (cs : List UInt8) (i p : Nat) : SmSeg (drSeg cs i p).1 := by
  have hl : (drFields cs (p + 1 + 1) (tk cs (p + 1) 5)).1.length ≤ 4 := by rw [drFields_len]; exact tk_le cs _ 5 4 (by decide)
  refine ⟨?_, ?_, trimF_sz hl (drFields_sm _ _ _)⟩
  · show (if i = 0 then (⟨#[77, 83, 72]⟩ : ByteArray) else drNames.getD (tk cs p 6) ⟨#[]⟩).size ≤ 3
    split
    · exact (by decide : (3 : Nat) ≤ 3)
    · exact drNames_sz _
  · exact Nat.le_trans (trimE_len _ _) (by rw [List.length_map]; exact hl)
theorem drSegs_sm (cs : List UInt8) (p : Nat) : ∀ n, ∀ s ∈ (drSegs cs p n).1, SmSeg s
  | 0, s, hs => by cases hs
  | n + 1, s, hs => by
    rcases List.mem_append.1 (show s ∈ (drSegs cs p n).1 ++ [(drSeg cs n (drSegs cs p n).2).1] from hs) with h | h
    · exact drSegs_sm cs p n s h
    · rw [List.mem_singleton.1 h]; exact drSeg_sm _ _ _
theorem drCount_le (L : Nat) : drCount L 12 1 8 ≤ 8 := by unfold drCount; split <;> omega
theorem drMsg_len (cs : List UInt8) (p : Nat) : (drMsg cs p).1.length ≤ 8 := by unfold drMsg; rw [drSegs_len]; exact drCount_le _
theorem drMsg_p (cs : List UInt8) (p : Nat) : (drMsg cs p).2 ≤ p + 496 := by
  have := drSegs_p cs p (drCount cs.length 12 1 8)
  have h := drCount_le cs.length
  unfold drMsg
  omega
theorem drMsg_sm (cs : List UInt8) (p : Nat) : ∀ s ∈ (drMsg cs p).1, SmSeg s := drSegs_sm cs p _
theorem SmSeg.sz {s : Seg} (h : SmSeg s) : segSz s ≤ 111 := by obtain ⟨h1, _, h3⟩ := h; unfold segSz; omega
theorem drMsg_sz (cs : List UInt8) (p : Nat) : msgSz (drMsg cs p).1 ≤ 896 := lenSum_le 8 111 (drMsg_len cs p) fun s hs => (drMsg_sm cs p s hs).sz
theorem fOne_sz : fieldSz fOne ≤ 4 := by decide
theorem one_sum {f : Field} (B : Nat) (h : fieldSz f ≤ B) : lenSum fieldSz [f] ≤ B + 1 := by
  have := lenSum_le (f := fieldSz) (xs := [f]) 1 B (Nat.le_refl _) (fun x hx => by rw [List.mem_singleton.1 hx]; exact h)
  omega
theorem rep1_sz {r : Rep} (B : Nat) (h : repSz r ≤ B) : fieldSz [r] ≤ B + 1 := by
  have := lenSum_le (f := repSz) (xs := [r]) 1 B (Nat.le_refl _) (fun x hx => by rw [List.mem_singleton.1 hx]; exact h)
  unfold fieldSz
  omega
theorem spSeg_sz (A X : Nat) (s : Seg) (h : SmSeg s) (hX : X ≤ 1) : segSz (spSeg A X s) ≤ 400 := by
  have h0 := h.sz
  obtain ⟨h1, h2, h3⟩ := h
  unfold spSeg
  split
  · show (3 : Nat) + lenSum fieldSz s.fields ≤ _; omega
  split
  · show (3 : Nat) + lenSum fieldSz s.fields ≤ _; omega
  split
  · show s.name.size + lenSum fieldSz (s.fields ++ [_]) ≤ _
    rw [lenSum_app]
    have := one_sum (f := ([] : Field)) 0 (by decide)
    omega
  split
  · show s.name.size + lenSum fieldSz (s.fields ++ [_]) ≤ _
    rw [lenSum_app]
    have := one_sum (f := [[⟨#[118]⟩, ⟨#[]⟩]]) 10 (by decide)
    omega
  split
  · show s.name.size + lenSum fieldSz (s.fields ++ [_]) ≤ _
    rw [lenSum_app]
    have := one_sum (f := [[⟨#[118]⟩ ++ ⟨#[UInt8.ofNat (31 + 96 * X)]⟩]]) 10 (rep1_sz 9 (by
      refine Nat.le_trans (lenSum_le 1 2 (Nat.le_refl _) fun x hx => ?_) (by decide)
      rw [List.mem_singleton.1 hx]
      show ByteArray.size _ ≤ _
      rw [ByteArray.size_append]
      exact Nat.le_refl _))
    omega
  split
  · show s.name.size + lenSum fieldSz (s.fields ++ _) ≤ _
    rw [lenSum_app]
    have := lenSum_le (f := fieldSz) (xs := List.replicate (30 + X - s.fields.length) fOne) 31 4 (by rw [List.length_replicate]; omega) (fun x hx => by rw [List.eq_of_mem_replicate hx]; exact fOne_sz)
    omega
  split
  · show s.name.size + lenSum fieldSz (s.fields ++ [_]) ≤ _
    rw [lenSum_app]
    have := one_sum (f := List.replicate (30 + X) [⟨#[114]⟩]) 93 (lenSum_le 31 2 (by rw [List.length_replicate]; omega) (fun x hx => by rw [List.eq_of_mem_replicate hx]; decide))
    omega
  split
  · show s.name.size + lenSum fieldSz (s.fields ++ [_]) ≤ _
    rw [lenSum_app]
    have := one_sum (f := [List.replicate (20 + X) ⟨#[99]⟩]) 50 (rep1_sz 49 (Nat.le_trans (lenSum_le 21 1 (by rw [List.length_replicate]; omega) (fun x hx => by rw [List.eq_of_mem_replicate hx]; exact Nat.le_refl _)) (by decide)))
    omega
  split
  · show (1 : Nat) + lenSum fieldSz s.fields ≤ _; omega
  omega
theorem spSegs_sm (A AT X : Nat) (m : List Seg) (hX : X ≤ 1) (h : ∀ s ∈ m, SmSeg s) : ∀ n, n ≤ m.length → ∀ s ∈ spSegs A AT X m n, segSz s ≤ 400
  | 0, _, s, hs => by cases hs
  | n + 1, hn, s, hs => by
    have hm : SmSeg (m.getD n ⟨⟨#[]⟩, []⟩) := by
      rw [List.getD_eq_getElem?_getD, List.getElem?_eq_getElem (by omega)]
      exact h _ (List.getElem_mem _)
    rcases List.mem_append.1 (show s ∈ spSegs A AT X m n ++ [_] from hs) with h' | h'
    · exact spSegs_sm A AT X m hX h n (by omega) s h'
    · rw [List.mem_singleton.1 h']
      split
      · exact spSeg_sz A X _ hm hX
      · exact Nat.le_trans hm.sz (by decide)
end Go.Proofs.YtcphfhfockjljaaDoor.Msg

namespace Go.Proofs.YtcphfhfockjljaaDoor.Msg
open Go.ChangeShapes Go.WideShapes Go.ChangeAt Go.RowKit
set_option linter.unusedVariables false
set_option linter.unusedSimpArgs false

/-! DrawEncode, DrawGet -/
theorem segs_set {L lo b o : Nat} {w : World} {v : Value} {xs : List Seg} (hl : lo ≤ L) (hb : b < L) (h : SegsAt L w v xs) (x : Value) : SegsAt lo (w.setCell ⟨b, o, none⟩ x) v xs :=
  At.mono mono_seg (At.same kept_seg h ⟨by rw [Deep.nblk_setCell]; exact Nat.le_refl _, fun d h1 _ => Deep.blk_setCell_other _ ⟨b, o, none⟩ _ d (by dsimp only; omega)⟩) hl
theorem spoil_sz (cs : List UInt8) (p : Nat) (m : List Seg) (hl : m.length ≤ 8) (h : ∀ s ∈ m, SmSeg s) : msgSz (spoil cs p m) ≤ 100000 := by
  have hX : tk cs (p + 1 + 1) 2 ≤ 1 := tk_le cs _ 2 1 (by decide)
  have hs := spSegs_sm (tk cs p 12) (tk cs (p + 1) m.length) (tk cs (p + 1 + 1) 2) m hX h m.length (Nat.le_refl _)
  have h1 := lenSum_le (f := segSz) 8 400 (by rw [spSegs_len]; exact hl) hs
  unfold spoil
  split
  · exact Nat.zero_le _
  split
  · have hz := longS_sz ⟨#[118]⟩ (39986 + tk cs (p + 1 + 1) 2 + 1) (39986 + tk cs (p + 1 + 1) 2)
    have h118 : (⟨#[118]⟩ : ByteArray).size = 1 := rfl
    have hx2 : (longS ⟨#[118]⟩ (39986 + tk cs (p + 1 + 1) 2 + 1) (39986 + tk cs (p + 1 + 1) 2)).size ≤ 39990 := by omega
    have h3 := one_sum (f := [[longS ⟨#[118]⟩ (39986 + tk cs (p + 1 + 1) 2 + 1) (39986 + tk cs (p + 1 + 1) 2)]]) 39993 (rep1_sz 39991 (by
      refine Nat.le_trans (lenSum_le 1 39990 (Nat.le_refl _) fun x hx => ?_) (by decide)
      rw [List.mem_singleton.1 hx]; exact hx2) |> fun h => Nat.le_trans h (by decide))
    refine Nat.le_trans (lenSum_le (f := segSz) 2 39997 (Nat.le_refl _) fun s hs => ?_) (by decide)
    simp only [List.mem_cons, List.not_mem_nil, or_false] at hs
    rcases hs with rfl | rfl
    · exact (by decide : (3 : Nat) ≤ 39997)
    · show (3 : Nat) + lenSum fieldSz [_] ≤ _
      omega
  split
  · show lenSum segSz (_ ++ _) ≤ _
    rw [lenSum_app]
    have h2 := lenSum_le (f := segSz) (xs := List.replicate (250 + tk cs (p + 1 + 1) 2 - m.length) ⟨⟨#[90, 90, 90]⟩, []⟩) 251 3 (by rw [List.length_replicate]; omega) (fun s hs => by rw [List.eq_of_mem_replicate hs]; exact (by decide : (3 : Nat) ≤ 3))
    omega
  · show lenSum segSz _ ≤ _
    omega
def drEnc (cs : List UInt8) : List Seg := if 6 ≤ tk cs 0 9 then spoil cs (drMsg cs 1).2 (drMsg cs 1).1 else (drMsg cs 1).1
theorem drEnc_sz (cs : List UInt8) : msgSz (drEnc cs) ≤ 100000 := by
  unfold drEnc
  split
  · exact spoil_sz cs _ _ (drMsg_len cs 1) (drMsg_sm cs 1)
  · exact Nat.le_trans (drMsg_sz cs 1) (by decide)
set_option maxRecDepth 100000 in
set_option maxHeartbeats 4000000 in
theorem drawEncode_any (cs : List UInt8) (v : Value) (w : World) {lo : Nat} (hv : CodeAt lo w v cs) (hl : cs.length ≤ 1048576) :
    Calls Tryd.prog 4 #[v] w fun e w' => ∃ u, e = .returned (.agg #[u]) ∧ SegsAt w.heap.size w' u (drEnc cs) ∧ Below w.heap.size w w' := by
  have HV := hide hv
  obtain ⟨va, vc, rfl, _⟩ := code_form hv
  obtain ⟨x1, hx1⟩ : ∃ x, w.alloc (Obj.cells #[.slice none 0 0] 25) = x := ⟨_, rfl⟩
  have sx1 : x1.heap.size = w.heap.size + 1 := by rw [← hx1]; simp
  have bx1 : Below w.heap.size w x1 := by rw [← hx1]; exact (Below.refl _ _).alloc (Nat.le_refl _) _
  have HR1 : Hid (Box x1 w.heap.size 25 #[.slice none 0 0]) := by rw [← hx1]; exact Box.new _ _ _
  have HT1 := hide (take_any cs (.slice va cs.length vc) 0 9 x1 (At.kept kept_code HV.out bx1) hl (by decide) (by decide))
  have HDM := hide (drawMsg_any cs (.slice va cs.length vc) 1 x1 (At.kept kept_code HV.out bx1) hl (by decide))
  obtain ⟨r, hr⟩ : ∃ r, drEnc cs = r := ⟨_, rfl⟩
  have HR := hide hr
  rw [hr]
  unfold drEnc at HR
  have hA := tk_lt cs 0 9 (by decide)
  obtain ⟨A, hAe⟩ : ∃ A, tk cs 0 9 = A := ⟨_, rfl⟩
  rw [hAe] at HT1 HR hA
  have hq := drMsg_p cs 1
  have hml := drMsg_len cs 1
  have HSM := hide (drMsg_sm cs 1)
  obtain ⟨q, hqe⟩ : ∃ q, (drMsg cs 1).2 = q := ⟨_, rfl⟩
  obtain ⟨m, hme⟩ : ∃ m, (drMsg cs 1).1 = m := ⟨_, rfl⟩
  rw [hqe] at HDM HR hq
  rw [hme] at HDM HR hml HSM
  have HX1 := hide hx1
  have HB1 := hide bx1
  have HS1 := hide sx1
  have c1 : ((1 : Nat) : Int) = 1 := rfl
  have c01 : ((0 + 1 : Nat) : Int) = 1 := rfl
  have c0 : ((0 : Nat) : Int) = 0 := rfl
  rw [c1] at HDM
  rw [c0, c01] at HT1
  clear hv hr hAe hqe hme hx1 bx1 sx1 c1 c01 c0
  go_enter Tryd.func4, Tryd.ntmps4
  go_wp2_with fail
  rw [HX1.out]
  refine HT1.out.mono ?_
  rintro e y ⟨rfl, hy⟩
  (try rw [hy])
  clear hy y
  go_wp2_with fail
  refine HDM.out.mono ?_
  rintro e y ⟨am, cm, ps, rfl, hrow, hps, hby⟩
  obtain ⟨x2, hx2⟩ : ∃ x, y.alloc (Obj.cells #[.slice am m.length cm] 25) = x := ⟨_, rfl⟩
  have bx2 : Below y.heap.size y x2 := by rw [← hx2]; exact (Below.refl _ _).alloc (Nat.le_refl _) _
  have HP2 : Hid (Box x2 y.heap.size 25 #[.slice am m.length cm]) := by rw [← hx2]; exact Box.new _ _ _
  have HQ2 := hide ((HR1.out.below hby).below bx2)
  have m0 : x2.cell? ⟨y.heap.size, 0, none⟩ = some (.slice am m.length cm) := HP2.out.cell 0 (by simp)
  have r0 : x2.cell? ⟨w.heap.size, 0, none⟩ = some (.slice none 0 0) := HQ2.out.cell 0 (by simp)
  have rf : x2.frozen? ⟨w.heap.size, 0, none⟩ = false := HQ2.out.frozen 0
  have rl : w.heap.size < x2.heap.size := HQ2.out.lt
  have hrow2 := hrow.below bx2
  have HB2 := hide (bjoin (bjoin bx2 hby) HB1.out)
  have hsx := HS1.out
  have HXS := hide (Nat.le_trans hby.size bx2.size)
  have HX2 := hide hx2
  have hpl : ps.length = m.length := by rw [← hps, List.length_map]
  have HRW := hide hrow2
  have HPS := hide hps
  have hpsl := hide hpl
  clear hrow hps hby hx2 bx2 hrow2
  by_cases h6 : (A : Int) ≥ 6
  · have HX : Hid (spoil cs q m = r) := by have := HR.out; rw [if_pos (by omega)] at this; exact this
    have HSP := hide (spoil_any cs (.slice va cs.length vc) q ps am cm x2 (bb := x1.heap.size) (bd := fun b => b < x1.heap.size) (At.kept kept_code HV.out HB2.out) hl (by omega) (by rw [hpl]; exact HRW.out) (by omega) (fun e he => by
      have := HSM.out e.1 (by rw [← HPS.out]; exact List.mem_map_of_mem he)
      exact ⟨by have := this.2.1; omega, this.1⟩) (L := x1.heap.size) (by have := HB2.out.size; have := HQ2.out.lt; have := HXS.out; omega) (fun b hb => hb))
    rw [hpl, HPS.out] at HSP
    clear r0 rf rl hpl
    go_wp2_with fail
    rw [HX2.out]
    go_wp2_with fail
    refine HSP.out.mono ?_
    rintro e z ⟨u, rfl, hu, hbz⟩
    have hQ := HQ2.out.below hbz
    have r0 : z.cell? ⟨w.heap.size, 0, none⟩ = some (.slice none 0 0) := hQ.cell 0 (by simp)
    have rf : z.frozen? ⟨w.heap.size, 0, none⟩ = false := hQ.frozen 0
    have rl : w.heap.size < z.heap.size := hQ.lt
    rw [HX.out] at hu
    obtain ⟨ua, uc, rfl, _⟩ := hu.form
    have HU := hide hu
    have HBZ := hide (bjoin hbz HB2.out)
    have hbz2 := hide hbz
    have hxz : x2.heap.size ≤ z.heap.size := hbz.size
    clear hu hQ hbz
    go_wp2_with fail
    exact bodyPost_ret (v := .agg #[.slice ua r.length uc]) (by simp [results, Tryd.results4, go_sem, r0, rl]) rfl ⟨_, rfl, segs_set (L := x1.heap.size) (by omega) (by omega) HU.out _, HBZ.out.setCell (p := ⟨w.heap.size, 0, none⟩) (Nat.le_refl _) _⟩
  · have HX : Hid (m = r) := by have := HR.out; rw [if_neg (by omega)] at this; exact this
    have HFIN : Hid (∀ x, SegsAt w.heap.size (x2.setCell ⟨w.heap.size, 0, none⟩ x) (.slice am m.length cm) r ∧ Below w.heap.size w (x2.setCell ⟨w.heap.size, 0, none⟩ x)) := fun x => by
      refine ⟨?_, HB2.out.setCell (p := ⟨w.heap.size, 0, none⟩) (Nat.le_refl _) x⟩
      rw [← HX.out]
      have := (HRW.out.set (b := w.heap.size) (o := 0) (by show _ < _; omega) x).segsL (L := w.heap.size) (by omega) (by omega) (fun b hb => by show _ < _; omega)
      rw [HPS.out] at this
      exact this
    rw [← HX2.out] at r0 rf rl m0 HFIN
    clear HX
    go_wp2_with fail
    exact bodyPost_ret (v := .agg #[.slice am m.length cm]) (by simp [results, Tryd.results4, go_sem, r0, rl]) rfl ⟨_, rfl, (HFIN.out _).1, (HFIN.out _).2⟩
end Go.Proofs.YtcphfhfockjljaaDoor.Msg

namespace Go.Proofs.YtcphfhfockjljaaDoor.Msg
open Go.ChangeShapes Go.WideShapes Go.ChangeAt Go.RowKit
set_option linter.unusedVariables false
set_option linter.unusedSimpArgs false

/-! wSameTexts, wSameMessage of two that are one -/
set_option maxHeartbeats 2000000 in
theorem wTexts_yes (xs : List ByteArray) (v u : Value) (w : World) {lo lo2 : Nat} (hv : StrsAt lo w v xs) (hu : StrsAt lo2 w u xs) :
    Calls Tryd.prog 22 #[v, u] w fun e w' => e = .returned (.bool true) ∧ Below w.heap.size w w' := by
  have hl1 := hv.1
  obtain ⟨a, cap, rfl, hc⟩ := hv.form
  obtain ⟨a2, cap2, rfl, hc2⟩ := hu.form
  clear hv hu
  obtain ⟨n, hn⟩ : ∃ n, xs.length = n := ⟨_, rfl⟩
  rw [hn]
  rw [hn] at hl1
  have HC : Hid (∀ k (h1 : k < xs.length), ∃ b off b2 off2, a = some ⟨b, off, none⟩ ∧ a2 = some ⟨b2, off2, none⟩ ∧ b < w.heap.size ∧ b2 < w.heap.size ∧ w.cell? ⟨b, off + k, none⟩ = some (.string (xs[k])) ∧ w.cell? ⟨b2, off2 + k, none⟩ = some (.string (xs[k]))) := fun k h1 => by
    obtain ⟨b, off, e1, _, l1, r1⟩ := hc k h1
    obtain ⟨b2, off2, e2, _, l2, r2⟩ := hc2 k h1
    exact ⟨b, off, b2, off2, e1, e2, l1, l2, by simpa using r1.1, by simpa using r2.1⟩
  have HN := hide hn
  clear hc hc2 hn
  go_enter Tryd.func22, Tryd.ntmps22
  go_wp2_with fail
  go_loopg [5] n (fun q i wr => ∃ k : Nat, k ≤ n ∧ q = n - k ∧ i = .int .i64 (k : Int) ∧ Below w.heap.size w wr)
  case atStart => exact ⟨0, Nat.zero_le _, rfl, rfl, Below.refl _ _⟩
  case round =>
    obtain ⟨k, hk, rfl, rfl, hb⟩ := hrel
    by_cases hlt : k < n
    · have hki : (k : Int) < (n : Int) := by omega
      have k1 : k < xs.length := by have := HN.out; omega
      obtain ⟨b, off, b2, off2, rfl, rfl, l1, l2, r1, r2⟩ := HC.out k k1
      have h1 := (hb.cell (p := ⟨b, off + k, none⟩) l1).trans r1
      have h2 := (hb.cell (p := ⟨b2, off2 + k, none⟩) l2).trans r2
      obtain ⟨x, hx⟩ : ∃ x, xs[k] = x := ⟨_, rfl⟩
      rw [hx] at h1 h2
      clear r1 r2 hx k1
      go_wp2_with fail
      go_quiet (fail)
      go_wp2_with fail
      go_roundg (n - (k + 1))
      case measure => omega
      case rel => exact ⟨k + 1, by omega, rfl, by go_num, below_drewN hb _⟩
    · have hki : ¬ (k : Int) < (n : Int) := by omega
      go_wp2_with fail
      go_ret
      exact ⟨rfl, hb⟩
set_option maxRecDepth 100000 in
set_option maxHeartbeats 8000000 in
theorem wMsg_yes (xs : List Seg) (v u : Value) (w : World) {lo lo2 : Nat} (hv : SegsAt lo w v xs) (hu : SegsAt lo2 w u xs) :
    Calls Tryd.prog 10 #[.agg #[v], .agg #[u]] w fun e w' => e = .returned (.bool true) ∧ Below w.heap.size w w' := by
  have hl1 := hv.1
  obtain ⟨w2, hw2⟩ : ∃ w2, (w.alloc (Obj.cells #[v] 25)).alloc (Obj.cells #[u] 25) = w2 := ⟨_, rfl⟩
  have hb0 : Below w.heap.size w w2 := by rw [← hw2]; exact ((Below.refl w.heap.size w).alloc (Nat.le_refl _) _).alloc (by simp) _
  have c0 : w2.cell? ⟨w.heap.size, 0, none⟩ = some v := by rw [← hw2]; simp
  have c1 : w2.cell? ⟨w.heap.size + 1, 0, none⟩ = some u := by rw [← hw2]; simp
  have hs2 : w2.heap.size = w.heap.size + 2 := by rw [← hw2]; simp
  have hv2 := At.kept kept_seg hv hb0
  have hu2 := At.kept kept_seg hu hb0
  obtain ⟨a, cap, rfl, hc⟩ := hv2.form
  obtain ⟨a2, cap2, rfl, hc2⟩ := hu2.form
  have HB0 := hide hb0
  have HW2 := hide hw2
  clear hv hu hv2 hu2 hb0 hw2
  obtain ⟨n, hn⟩ : ∃ n, xs.length = n := ⟨_, rfl⟩
  have HN := hide hn
  rw [hn] at c0 c1 hl1 HW2 ⊢
  have KB : Hid (∀ X, Below w2.heap.size w2 X → X.cell? ⟨w.heap.size, 0, none⟩ = some (.slice a n cap) ∧ X.cell? ⟨w.heap.size + 1, 0, none⟩ = some (.slice a2 n cap2)) := fun X h =>
    ⟨(h.cell (p := ⟨w.heap.size, 0, none⟩) (by rw [hs2]; simp)).trans c0, (h.cell (p := ⟨w.heap.size + 1, 0, none⟩) (by rw [hs2]; simp)).trans c1⟩
  have HC : Hid (∀ k (h1 : k < xs.length), ∃ b off b2 off2 ve ue, a = some ⟨b, off, none⟩ ∧ a2 = some ⟨b2, off2, none⟩ ∧ b < w2.heap.size ∧ b2 < w2.heap.size ∧ (w2.cell? ⟨b, off + k * 2, none⟩ = some (.string (xs[k]).name) ∧ w2.cell? ⟨b, off + k * 2 + 1, none⟩ = some ve) ∧ (w2.cell? ⟨b2, off2 + k * 2, none⟩ = some (.string (xs[k]).name) ∧ w2.cell? ⟨b2, off2 + k * 2 + 1, none⟩ = some ue) ∧ FieldsAt lo w2 ve (xs[k]).fields ∧ FieldsAt lo2 w2 ue (xs[k]).fields) := fun k h1 => by
    obtain ⟨b, off, e1, _, l1, r0, _, ve, r1, s1⟩ := hc k h1
    obtain ⟨b2, off2, e2, _, l2, q0, _, ue, q1, s2⟩ := hc2 k h1
    exact ⟨b, off, b2, off2, ve, ue, e1, e2, l1, l2, ⟨r0, r1⟩, ⟨q0, q1⟩, s1, s2⟩
  have hw2 := HW2.out
  clear hc hc2 hn HW2
  go_enter Tryd.func10, Tryd.ntmps10
  go_wp2_with fail
  go_loopg [5] n (fun q i wr => ∃ k : Nat, k ≤ n ∧ q = n - k ∧ i = .int .i64 (k : Int) ∧ Below w2.heap.size w2 wr)
  case atStart => exact ⟨0, Nat.zero_le _, rfl, rfl, Below.refl _ _⟩
  case round =>
    obtain ⟨k, hk, rfl, rfl, hb⟩ := hrel
    clear c0 c1
    obtain ⟨Y, rfl⟩ : ∃ x, x = wr := ⟨_, rfl⟩
    obtain ⟨c0, c1⟩ := KB.out Y hb
    have HBR := hide hb
    clear hb
    by_cases hlt : k < n
    · have hki : (k : Int) < (n : Int) := by omega
      have k1 : k < xs.length := by have := HN.out; omega
      obtain ⟨b, off, b2, off2, ve, ue, rfl, rfl, l1, l2, ⟨r0, r1⟩, ⟨q0, q1⟩, s1, s2⟩ := HC.out k k1
      obtain ⟨⟨nm, fs⟩, hsg⟩ : ∃ s, xs[k] = s := ⟨_, rfl⟩
      rw [hsg] at r0 q0 s1 s2
      dsimp only at r0 q0 s1 s2
      have hlf := s1.1
      obtain ⟨af, cf, rfl, hcf⟩ := s1.form
      obtain ⟨af2, cf2, rfl, hcf2⟩ := s2.form
      obtain ⟨nf, hnf⟩ : ∃ n, fs.length = n := ⟨_, rfl⟩
      have HNF := hide hnf
      rw [hnf] at r1 q1 hlf
      have g0 : Y.cell? ⟨b, off + k * 2, none⟩ = some (.string nm) := (HBR.out.cell (p := ⟨b, off + k * 2, none⟩) l1).trans r0
      have g1 : Y.cell? ⟨b, off + k * 2 + 1, none⟩ = some (.slice af nf cf) := (HBR.out.cell (p := ⟨b, off + k * 2 + 1, none⟩) l1).trans r1
      obtain ⟨Y1, hY1⟩ : ∃ x, Y.alloc (Obj.cells #[.string nm, .slice af nf cf] 44) = x := ⟨_, rfl⟩
      have hbY1 : Below w2.heap.size w2 Y1 := by rw [← hY1]; exact HBR.out.alloc HBR.out.size _
      have d0 : Y1.cell? ⟨w.heap.size + 1, 0, none⟩ = some (.slice (some ⟨b2, off2, none⟩) n cap2) := (KB.out Y1 hbY1).2
      have d1 : Y1.cell? ⟨b2, off2 + k * 2, none⟩ = some (.string nm) := (hbY1.cell (p := ⟨b2, off2 + k * 2, none⟩) l2).trans q0
      have d2 : Y1.cell? ⟨b2, off2 + k * 2 + 1, none⟩ = some (.slice af2 nf cf2) := (hbY1.cell (p := ⟨b2, off2 + k * 2 + 1, none⟩) l2).trans q1
      obtain ⟨Y2, hY2⟩ : ∃ x, Y1.alloc (Obj.cells #[.string nm, .slice af2 nf cf2] 44) = x := ⟨_, rfl⟩
      have hbY2 : Below w2.heap.size w2 Y2 := by rw [← hY2]; exact hbY1.alloc hbY1.size _
      have sY1 : Y1.heap.size = Y.heap.size + 1 := by rw [← hY1]; simp
      have sY2 : Y2.heap.size = Y.heap.size + 2 := by rw [← hY2]; simp [sY1]
      have o1 : Box Y2 Y.heap.size 44 #[.string nm, .slice af nf cf] := by rw [← hY2, ← hY1]; exact (Box.new _ _ _).alloc _
      have o2 : Box Y2 (Y.heap.size + 1) 44 #[.string nm, .slice af2 nf cf2] := by rw [← hY2, ← sY1]; exact Box.new _ _ _
      have e0 : Y2.cell? ⟨Y.heap.size, 0, none⟩ = some (.string nm) := o1.cell 0 (by simp)
      have e1 : Y2.cell? ⟨Y.heap.size, 1, none⟩ = some (.slice af nf cf) := o1.cell 1 (by simp)
      have e2 : Y2.cell? ⟨Y.heap.size + 1, 0, none⟩ = some (.string nm) := o2.cell 0 (by simp)
      have e3 : Y2.cell? ⟨Y.heap.size + 1, 1, none⟩ = some (.slice af2 nf cf2) := o2.cell 1 (by simp)
      have KF : Hid (∀ X, Below Y2.heap.size Y2 X → X.cell? ⟨Y.heap.size, 1, none⟩ = some (.slice af nf cf) ∧ X.cell? ⟨Y.heap.size + 1, 1, none⟩ = some (.slice af2 nf cf2)) := fun X h =>
        ⟨(h.cell (p := ⟨Y.heap.size, 1, none⟩) (by dsimp only; omega)).trans e1, (h.cell (p := ⟨Y.heap.size + 1, 1, none⟩) (by dsimp only; omega)).trans e3⟩
      have HCF : Hid (∀ j (h1 : j < fs.length), ∃ b off b2 off2 ve ue, af = some ⟨b, off, none⟩ ∧ af2 = some ⟨b2, off2, none⟩ ∧ b < w2.heap.size ∧ b2 < w2.heap.size ∧ w2.cell? ⟨b, off + j, none⟩ = some ve ∧ w2.cell? ⟨b2, off2 + j, none⟩ = some ue ∧ RepsAt lo w2 ve (fs[j]) ∧ RepsAt lo2 w2 ue (fs[j])) := fun j h1 => by
        obtain ⟨b, off, e1, _, l1, ve, r1, s1⟩ := hcf j h1
        obtain ⟨b2, off2, e2, _, l2, ue, q1, s2⟩ := hcf2 j h1
        exact ⟨b, off, b2, off2, ve, ue, e1, e2, l1, l2, by simpa using r1, by simpa using q1, s1, s2⟩
      have HYY : Hid ((Y.alloc (Obj.cells #[.string nm, .slice af nf cf] 44)).alloc (Obj.cells #[.string nm, .slice af2 nf cf2] 44) = Y2) := by rw [hY1]; exact hY2
      have HBY2 := hide hbY2
      have HSY := hide sY2
      rw [← HYY.out] at e0 e1 e2 e3
      rw [← hY1] at d0 d1 d2
      clear hcf hcf2 s1 s2 r0 r1 q0 q1 hsg hnf o1 o2 hbY1 hbY2 hY1 hY2 k1 sY1 sY2
      have sY1 : (Y.alloc (Obj.cells #[.string nm, .slice af nf cf] 44)).heap.size = Y.heap.size + 1 := by simp
      go_wp2_with fail
      rw [HYY.out]
      rw [HYY.out] at e0 e1 e2 e3
      clear d0 d1 d2 sY1 g0 g1 c0 c1 e0 e1 e2 e3
      go_loopg [8] nf (fun q j wr => ∃ kf : Nat, kf ≤ nf ∧ q = nf - kf ∧ j = .int .i64 (kf : Int) ∧ Below Y2.heap.size Y2 wr)
      case atStart => exact ⟨0, Nat.zero_le _, rfl, rfl, Below.refl _ _⟩
      case round =>
        obtain ⟨kf, hkf, rfl, rfl, hb⟩ := hrel
        obtain ⟨Z, rfl⟩ : ∃ x, x = wr := ⟨_, rfl⟩
        have HBZ := hide hb
        clear hb
        obtain ⟨e1, e3⟩ := KF.out Z HBZ.out
        by_cases hlt2 : kf < nf
        · have hkfi : (kf : Int) < (nf : Int) := by omega
          obtain ⟨b3, off3, b4, off4, vr, ur, rfl, rfl, l3, l4, r3, r4, s3, s4⟩ := HCF.out kf (by have := HNF.out; omega)
          obtain ⟨f, hf⟩ : ∃ f, fs[kf]'(by have := HNF.out; omega) = f := ⟨_, rfl⟩
          rw [hf] at s3 s4
          have hlr := s3.1
          obtain ⟨ar, cr, rfl, hcr⟩ := s3.form
          obtain ⟨ar2, cr2, rfl, hcr2⟩ := s4.form
          obtain ⟨nr, hnr⟩ : ∃ n, f.length = n := ⟨_, rfl⟩
          have HNR := hide hnr
          rw [hnr] at r3 r4 hlr
          have KR : Hid (∀ X, Below Y2.heap.size Y2 X → X.cell? ⟨Y.heap.size, 1, none⟩ = some (.slice (some ⟨b3, off3, none⟩) nf cf) ∧ X.cell? ⟨Y.heap.size + 1, 1, none⟩ = some (.slice (some ⟨b4, off4, none⟩) nf cf2) ∧ X.cell? ⟨b3, off3 + kf, none⟩ = some (.slice ar nr cr) ∧ X.cell? ⟨b4, off4 + kf, none⟩ = some (.slice ar2 nr cr2)) := fun X h =>
            ⟨(KF.out X h).1, (KF.out X h).2, ((bjoin h HBY2.out).cell (p := ⟨b3, off3 + kf, none⟩) l3).trans r3, ((bjoin h HBY2.out).cell (p := ⟨b4, off4 + kf, none⟩) l4).trans r4⟩
          have HCR : Hid (∀ j (h1 : j < f.length), ∃ b off b2 off2 ve ue, ar = some ⟨b, off, none⟩ ∧ ar2 = some ⟨b2, off2, none⟩ ∧ b < w2.heap.size ∧ b2 < w2.heap.size ∧ w2.cell? ⟨b, off + j, none⟩ = some ve ∧ w2.cell? ⟨b2, off2 + j, none⟩ = some ue ∧ StrsAt lo w2 ve (f[j]) ∧ StrsAt lo2 w2 ue (f[j])) := fun j h1 => by
            obtain ⟨b, off, e1, _, l1, ve, r1, s1⟩ := hcr j h1
            obtain ⟨b2, off2, e2, _, l2, ue, q1, s2⟩ := hcr2 j h1
            exact ⟨b, off, b2, off2, ve, ue, e1, e2, l1, l2, by simpa using r1, by simpa using q1, s1, s2⟩
          clear hcr hcr2 s3 s4 r3 r4 hf hnr e1 e3
          obtain ⟨e1, e3, e5, e7⟩ := KR.out Z HBZ.out
          go_wp2_with fail
          go_quiet (fail)
          clear e1 e3 e5 e7
          go_wp2_with fail
          go_loopg [9] nr (fun q j wr => ∃ kr : Nat, kr ≤ nr ∧ q = nr - kr ∧ j = .int .i64 (kr : Int) ∧ Below Y2.heap.size Y2 wr)
          case atStart => exact ⟨0, Nat.zero_le _, rfl, rfl, below_drewN HBZ.out _⟩
          case round =>
            obtain ⟨kr, hkr, rfl, rfl, hb⟩ := hrel
            obtain ⟨U, rfl⟩ : ∃ x, x = wr := ⟨_, rfl⟩
            have HBU := hide hb
            clear hb
            obtain ⟨e1, e3, e5, e7⟩ := KR.out U HBU.out
            by_cases hlt3 : kr < nr
            · have hkri : (kr : Int) < (nr : Int) := by omega
              obtain ⟨b5, off5, b6, off6, vs, us, rfl, rfl, l5, l6, r5, r6, s5, s6⟩ := HCR.out kr (by have := HNR.out; omega)
              obtain ⟨rp, hrp⟩ : ∃ f', f[kr]'(by have := HNR.out; omega) = f' := ⟨_, rfl⟩
              rw [hrp] at s5 s6
              have KS : Hid (∀ X, Below Y2.heap.size Y2 X → X.cell? ⟨Y.heap.size, 1, none⟩ = some (.slice (some ⟨b3, off3, none⟩) nf cf) ∧ X.cell? ⟨Y.heap.size + 1, 1, none⟩ = some (.slice (some ⟨b4, off4, none⟩) nf cf2) ∧ X.cell? ⟨b3, off3 + kf, none⟩ = some (.slice (some ⟨b5, off5, none⟩) nr cr) ∧ X.cell? ⟨b4, off4 + kf, none⟩ = some (.slice (some ⟨b6, off6, none⟩) nr cr2) ∧ X.cell? ⟨b5, off5 + kr, none⟩ = some vs ∧ X.cell? ⟨b6, off6 + kr, none⟩ = some us) := fun X h =>
                ⟨(KR.out X h).1, (KR.out X h).2.1, (KR.out X h).2.2.1, (KR.out X h).2.2.2, ((bjoin h HBY2.out).cell (p := ⟨b5, off5 + kr, none⟩) l5).trans r5, ((bjoin h HBY2.out).cell (p := ⟨b6, off6 + kr, none⟩) l6).trans r6⟩
              have HST := hide (fun X (h : Below Y2.heap.size Y2 X) => wTexts_yes rp vs us X (At.kept kept_str s5 (bjoin h HBY2.out)) (At.kept kept_str s6 (bjoin h HBY2.out)))
              obtain ⟨D, hDe⟩ : ∃ D, U.drew = D := ⟨_, rfl⟩
              have hD0 : Below Y2.heap.size Y2 U.drew := HBU.out.drew
              have hD : Below Y2.heap.size Y2 D := by rw [← hDe]; exact hD0
              clear hrp s5 s6 r5 r6
              go_wp2_with fail
              go_region_held3 (fun X => X.cell? ⟨Y.heap.size, 1, none⟩ = some (.slice (some ⟨b3, off3, none⟩) nf cf) ∧ X.cell? ⟨Y.heap.size + 1, 1, none⟩ = some (.slice (some ⟨b4, off4, none⟩) nf cf2) ∧ X.cell? ⟨b3, off3 + kf, none⟩ = some (.slice (some ⟨b5, off5, none⟩) nr cr) ∧ X.cell? ⟨b4, off4 + kf, none⟩ = some (.slice (some ⟨b6, off6, none⟩) nr cr2) ∧ X.cell? ⟨b5, off5 + kr, none⟩ = some vs ∧ X.cell? ⟨b6, off6 + kr, none⟩ = some us)
                (first | with_reducible exact KS.out _ hD0 | with_reducible exact KS.out _ hD | with_reducible exact KS.out _ hB9)
                ((go_at_call 22; refine (HST.out _ hD).mono ?_; rintro e W9 ⟨rfl, hb9⟩; have hB9 : Below Y2.heap.size Y2 W9 := bjoin hb9 hD))
              go_wp2_with fail
              go_roundg (nr - (kr + 1))
              case measure => omega
              case rel => exact ⟨kr + 1, by omega, rfl, by go_num, hB9⟩
            · have hkri : ¬ (kr : Int) < (nr : Int) := by omega
              go_wp2_with fail
              go_roundg (nf - (kf + 1))
              case measure => omega
              case rel => exact ⟨kf + 1, by omega, rfl, by go_num, HBU.out⟩
        · have hkfi : ¬ (kf : Int) < (nf : Int) := by omega
          have HBB := hide (bjoin HBZ.out HBY2.out)
          go_wp2_with fail
          go_roundg (n - (k + 1))
          case measure => omega
          case rel => exact ⟨k + 1, by omega, rfl, by go_num, HBB.out⟩
    · have hki : ¬ (k : Int) < (n : Int) := by omega
      go_wp2_with fail
      go_ret
      exact ⟨rfl, bjoin HBR.out HB0.out⟩
end Go.Proofs.YtcphfhfockjljaaDoor.Msg
