import Derived.Test.YtcphfhfockjljaaGreatDoorPhasewithSpoilKitwithDrawLong
import Derived.Test.YtcphfhfockjljaaGreatDoorSpoil
namespace Go.Proofs.YtcphfhfockjljaaGreatDoor.Msg
open Go.ChangeShapes Go.WideShapes Go.ChangeAt Go.RowKit
set_option linter.unusedVariables false
set_option linter.unusedSimpArgs false

/-! what is drawn is small -/
theorem sumOf_le {α : Type} (f : α → Nat) (B : Nat) : ∀ (xs : List α), (∀ x ∈ xs, f x ≤ B) → sumOf f xs ≤ xs.length * B
  | [], _ => Nat.zero_le _
  | x :: xs, h => by
    have h1 := h x (List.mem_cons_self ..)
    have h2 := sumOf_le f B xs fun y hy => h y (List.mem_cons_of_mem _ hy)
    unfold sumOf at *
    rw [List.map_cons, List.sum_cons, List.length_cons, Nat.succ_mul]
    omega
theorem lenSum_le {α : Type} {f : α → Nat} {xs : List α} (n B : Nat) (hl : xs.length ≤ n) (h : ∀ x ∈ xs, f x ≤ B) : lenSum f xs ≤ n * B + n := by
  have h1 := sumOf_le f B xs h
  have h2 := Nat.mul_le_mul_right B hl
  unfold lenSum
  omega
theorem lenSum_app {α : Type} (f : α → Nat) (xs ys : List α) : lenSum f (xs ++ ys) = lenSum f xs + lenSum f ys := by
  unfold lenSum sumOf
  rw [List.length_append, List.map_append, List.sum_append]
  omega
theorem trimE_in {α : Type} {p : α → Bool} {xs : List α} {x : α} (h : x ∈ trimE p xs) : x ∈ xs := List.mem_of_mem_take h
theorem trimE_len {α : Type} (p : α → Bool) (xs : List α) : (trimE p xs).length ≤ xs.length := by unfold trimE; rw [List.length_take]; omega
theorem trimC_sz {r : Rep} (hl : r.length ≤ 3) (h : ∀ s ∈ r, s.size ≤ 3) : repSz (trimC r) ≤ 12 :=
  lenSum_le 3 3 (Nat.le_trans (trimE_len _ _) hl) fun x hx => h x (trimE_in hx)
theorem trimR_sz {f : Field} (hl : f.length ≤ 2) (h : ∀ r ∈ f, r.length ≤ 3 ∧ ∀ s ∈ r, s.size ≤ 3) : fieldSz (trimR f) ≤ 26 := by
  refine lenSum_le 2 12 (Nat.le_trans (trimE_len _ _) (by rw [List.length_map]; exact hl)) fun x hx => ?_
  obtain ⟨r, hr, rfl⟩ := List.mem_map.1 (trimE_in hx)
  exact trimC_sz (h r hr).1 (h r hr).2
theorem trimF_sz {fs : List Field} (hl : fs.length ≤ 4) (h : ∀ f ∈ fs, f.length ≤ 2 ∧ ∀ r ∈ f, r.length ≤ 3 ∧ ∀ s ∈ r, s.size ≤ 3) : lenSum fieldSz (trimF fs) ≤ 108 := by
  refine lenSum_le 4 26 (Nat.le_trans (trimE_len _ _) (by rw [List.length_map]; exact hl)) fun x hx => ?_
  obtain ⟨f, hf, rfl⟩ := List.mem_map.1 (trimE_in hx)
  exact trimR_sz (h f hf).1 (h f hf).2
theorem drRep_sm (cs : List UInt8) (p : Nat) : (drRep cs p).length ≤ 3 ∧ ∀ s ∈ drRep cs p, s.size ≤ 3 := by
  unfold drRep
  refine ⟨?_, fun s hs => ?_⟩
  · rw [List.length_map, List.length_range]; exact tk_le cs p 4 3 (by decide)
  · obtain ⟨x, _, rfl⟩ := List.mem_map.1 hs
    exact drComp_sz _ _
theorem drReps_sm (cs : List UInt8) (p : Nat) : ∀ n, ∀ r ∈ (drReps cs p n).1, r.length ≤ 3 ∧ ∀ s ∈ r, s.size ≤ 3
  | 0, r, hr => by cases hr
  | n + 1, r, hr => by
    rcases List.mem_append.1 (show r ∈ (drReps cs p n).1 ++ [drRep cs (drReps cs p n).2] from hr) with h | h
    · exact drReps_sm cs p n r h
    · rw [List.mem_singleton.1 h]; exact drRep_sm _ _
theorem drField_sm (cs : List UInt8) (p : Nat) : (drField cs p).1.length ≤ 2 ∧ ∀ r ∈ (drField cs p).1, r.length ≤ 3 ∧ ∀ s ∈ r, s.size ≤ 3 := by
  unfold drField
  exact ⟨by rw [drReps_len]; exact tk_le cs p 3 2 (by decide), drReps_sm _ _ _⟩
theorem drFields_sm (cs : List UInt8) (p : Nat) : ∀ n, ∀ f ∈ (drFields cs p n).1, f.length ≤ 2 ∧ ∀ r ∈ f, r.length ≤ 3 ∧ ∀ s ∈ r, s.size ≤ 3
  | 0, f, hf => by cases hf
  | n + 1, f, hf => by
    rcases List.mem_append.1 (show f ∈ (drFields cs p n).1 ++ [(drField cs (drFields cs p n).2).1] from hf) with h | h
    · exact drFields_sm cs p n f h
    · rw [List.mem_singleton.1 h]; exact drField_sm _ _
theorem drNames_sz (k : Nat) : (drNames.getD k ⟨#[]⟩).size ≤ 3 := by
  rw [List.getD_eq_getElem?_getD]
  by_cases h : k < drNames.length
  · rw [List.getElem?_eq_getElem h]
    exact (by decide : ∀ x ∈ drNames, x.size ≤ 3) _ (List.getElem_mem h)
  · rw [List.getElem?_eq_none (by omega)]; exact Nat.zero_le _
/-- a segment that is small -/
def SmSeg (s : Seg) : Prop := s.name.size ≤ 3 ∧ s.fields.length ≤ 4 ∧ lenSum fieldSz s.fields ≤ 108
theorem drSeg_sm (cs : List UInt8) (i p : Nat) : SmSeg (drSeg cs i p).1 := by
  have hl : (drFields cs (p + 1 + 1) (tk cs (p + 1) 5)).1.length ≤ 4 := by rw [drFields_len]; exact tk_le cs _ 5 4 (by decide)
  refine ⟨?_, ?_, trimF_sz hl (drFields_sm _ _ _)⟩
  · show (if i = 0 then (⟨#[77, 83, 72]⟩ : ByteArray) else drNames.getD (tk cs p 6) ⟨#[]⟩).size ≤ 3
    split
    · exact (by decide : (3 : Nat) ≤ 3)
    · exact drNames_sz _
  · exact Nat.le_trans (trimE_len _ _) (by rw [List.length_map]; exact hl)
theorem drSegs_sm (cs : List UInt8) (p : Nat) : ∀ n, ∀ s ∈ (drSegs cs p n).1, SmSeg s
  | 0, s, hs => by cases hs
  | n + 1, s, hs => by
    rcases List.mem_append.1 (show s ∈ (drSegs cs p n).1 ++ [(drSeg cs n (drSegs cs p n).2).1] from hs) with h | h
    · exact drSegs_sm cs p n s h
    · rw [List.mem_singleton.1 h]; exact drSeg_sm _ _ _
theorem drCount_le (L : Nat) : drCount L 12 1 8 ≤ 8 := by unfold drCount; split <;> omega
theorem drMsg_len (cs : List UInt8) (p : Nat) : (drMsg cs p).1.length ≤ 8 := by unfold drMsg; rw [drSegs_len]; exact drCount_le _
theorem drMsg_p (cs : List UInt8) (p : Nat) : (drMsg cs p).2 ≤ p + 496 := by
  have := drSegs_p cs p (drCount cs.length 12 1 8)
  have h := drCount_le cs.length
  unfold drMsg
  omega
theorem drMsg_sm (cs : List UInt8) (p : Nat) : ∀ s ∈ (drMsg cs p).1, SmSeg s := drSegs_sm cs p _
theorem SmSeg.sz {s : Seg} (h : SmSeg s) : segSz s ≤ 111 := by obtain ⟨h1, _, h3⟩ := h; unfold segSz; omega
theorem drMsg_sz (cs : List UInt8) (p : Nat) : msgSz (drMsg cs p).1 ≤ 896 := lenSum_le 8 111 (drMsg_len cs p) fun s hs => (drMsg_sm cs p s hs).sz
theorem fOne_sz : fieldSz fOne ≤ 4 := by decide
theorem one_sum {f : Field} (B : Nat) (h : fieldSz f ≤ B) : lenSum fieldSz [f] ≤ B + 1 := by
  have := lenSum_le (f := fieldSz) (xs := [f]) 1 B (Nat.le_refl _) (fun x hx => by rw [List.mem_singleton.1 hx]; exact h)
  omega
theorem rep1_sz {r : Rep} (B : Nat) (h : repSz r ≤ B) : fieldSz [r] ≤ B + 1 := by
  have := lenSum_le (f := repSz) (xs := [r]) 1 B (Nat.le_refl _) (fun x hx => by rw [List.mem_singleton.1 hx]; exact h)
  unfold fieldSz
  omega
theorem spSeg_sz (A X : Nat) (s : Seg) (h : SmSeg s) (hX : X ≤ 1) : segSz (spSeg A X s) ≤ 400 := by
  have h0 := h.sz
  obtain ⟨h1, h2, h3⟩ := h
  unfold spSeg
  split
  · show (3 : Nat) + lenSum fieldSz s.fields ≤ _; omega
  split
  · show (3 : Nat) + lenSum fieldSz s.fields ≤ _; omega
  split
  · show s.name.size + lenSum fieldSz (s.fields ++ [_]) ≤ _
    rw [lenSum_app]
    have := one_sum (f := ([] : Field)) 0 (by decide)
    omega
  split
  · show s.name.size + lenSum fieldSz (s.fields ++ [_]) ≤ _
    rw [lenSum_app]
    have := one_sum (f := [[⟨#[118]⟩, ⟨#[]⟩]]) 10 (by decide)
    omega
  split
  · show s.name.size + lenSum fieldSz (s.fields ++ [_]) ≤ _
    rw [lenSum_app]
    have := one_sum (f := [[⟨#[118]⟩ ++ ⟨#[UInt8.ofNat (31 + 96 * X)]⟩]]) 10 (rep1_sz 9 (by
      refine Nat.le_trans (lenSum_le 1 2 (Nat.le_refl _) fun x hx => ?_) (by decide)
      rw [List.mem_singleton.1 hx]
      show ByteArray.size _ ≤ _
      rw [ByteArray.size_append]
      exact Nat.le_refl _))
    omega
  split
  · show s.name.size + lenSum fieldSz (s.fields ++ _) ≤ _
    rw [lenSum_app]
    have := lenSum_le (f := fieldSz) (xs := List.replicate (30 + X - s.fields.length) fOne) 31 4 (by rw [List.length_replicate]; omega) (fun x hx => by rw [List.eq_of_mem_replicate hx]; exact fOne_sz)
    omega
  split
  · show s.name.size + lenSum fieldSz (s.fields ++ [_]) ≤ _
    rw [lenSum_app]
    have := one_sum (f := List.replicate (30 + X) [⟨#[114]⟩]) 93 (lenSum_le 31 2 (by rw [List.length_replicate]; omega) (fun x hx => by rw [List.eq_of_mem_replicate hx]; decide))
    omega
  split
  · show s.name.size + lenSum fieldSz (s.fields ++ [_]) ≤ _
    rw [lenSum_app]
    have := one_sum (f := [List.replicate (20 + X) ⟨#[99]⟩]) 50 (rep1_sz 49 (Nat.le_trans (lenSum_le 21 1 (by rw [List.length_replicate]; omega) (fun x hx => by rw [List.eq_of_mem_replicate hx]; exact Nat.le_refl _)) (by decide)))
    omega
  split
  · show (1 : Nat) + lenSum fieldSz s.fields ≤ _; omega
  omega
theorem spSegs_sm (A AT X : Nat) (m : List Seg) (hX : X ≤ 1) (h : ∀ s ∈ m, SmSeg s) : ∀ n, n ≤ m.length → ∀ s ∈ spSegs A AT X m n, segSz s ≤ 400
  | 0, _, s, hs => by cases hs
  | n + 1, hn, s, hs => by
    have hm : SmSeg (m.getD n ⟨⟨#[]⟩, []⟩) := by
      rw [List.getD_eq_getElem?_getD, List.getElem?_eq_getElem (by omega)]
      exact h _ (List.getElem_mem _)
    rcases List.mem_append.1 (show s ∈ spSegs A AT X m n ++ [_] from hs) with h' | h'
    · exact spSegs_sm A AT X m hX h n (by omega) s h'
    · rw [List.mem_singleton.1 h']
      split
      · exact spSeg_sz A X _ hm hX
      · exact Nat.le_trans hm.sz (by decide)
end Go.Proofs.YtcphfhfockjljaaGreatDoor.Msg

namespace Go.Proofs.YtcphfhfockjljaaGreatDoor.Msg
open Go.ChangeShapes Go.WideShapes Go.ChangeAt Go.RowKit
set_option linter.unusedVariables false
set_option linter.unusedSimpArgs false

/-! DrawEncode, DrawGet -/
theorem segs_set {L lo b o : Nat} {w : World} {v : Value} {xs : List Seg} (hl : lo ≤ L) (hb : b < L) (h : SegsAt L w v xs) (x : Value) : SegsAt lo (w.setCell ⟨b, o, none⟩ x) v xs :=
  At.mono mono_seg (At.same kept_seg h ⟨by rw [Deep.nblk_setCell]; exact Nat.le_refl _, fun d h1 _ => Deep.blk_setCell_other _ ⟨b, o, none⟩ _ d (by dsimp only; omega)⟩) hl
theorem spoil_sz (cs : List UInt8) (p : Nat) (m : List Seg) (hl : m.length ≤ 8) (h : ∀ s ∈ m, SmSeg s) : msgSz (spoil cs p m) ≤ 100000 := by
  have hX : tk cs (p + 1 + 1) 2 ≤ 1 := tk_le cs _ 2 1 (by decide)
  have hs := spSegs_sm (tk cs p 12) (tk cs (p + 1) m.length) (tk cs (p + 1 + 1) 2) m hX h m.length (Nat.le_refl _)
  have h1 := lenSum_le (f := segSz) 8 400 (by rw [spSegs_len]; exact hl) hs
  unfold spoil
  split
  · exact Nat.zero_le _
  split
  · have hz := longS_sz ⟨#[118]⟩ (39986 + tk cs (p + 1 + 1) 2 + 1) (39986 + tk cs (p + 1 + 1) 2)
    have h118 : (⟨#[118]⟩ : ByteArray).size = 1 := rfl
    have hx2 : (longS ⟨#[118]⟩ (39986 + tk cs (p + 1 + 1) 2 + 1) (39986 + tk cs (p + 1 + 1) 2)).size ≤ 39990 := by omega
    have h3 := one_sum (f := [[longS ⟨#[118]⟩ (39986 + tk cs (p + 1 + 1) 2 + 1) (39986 + tk cs (p + 1 + 1) 2)]]) 39993 (rep1_sz 39991 (by
      refine Nat.le_trans (lenSum_le 1 39990 (Nat.le_refl _) fun x hx => ?_) (by decide)
      rw [List.mem_singleton.1 hx]; exact hx2) |> fun h => Nat.le_trans h (by decide))
    refine Nat.le_trans (lenSum_le (f := segSz) 2 39997 (Nat.le_refl _) fun s hs => ?_) (by decide)
    simp only [List.mem_cons, List.not_mem_nil, or_false] at hs
    rcases hs with rfl | rfl
    · exact (by decide : (3 : Nat) ≤ 39997)
    · show (3 : Nat) + lenSum fieldSz [_] ≤ _
      omega
  split
  · show lenSum segSz (_ ++ _) ≤ _
    rw [lenSum_app]
    have h2 := lenSum_le (f := segSz) (xs := List.replicate (250 + tk cs (p + 1 + 1) 2 - m.length) ⟨⟨#[90, 90, 90]⟩, []⟩) 251 3 (by rw [List.length_replicate]; omega) (fun s hs => by rw [List.eq_of_mem_replicate hs]; exact (by decide : (3 : Nat) ≤ 3))
    omega
  · show lenSum segSz _ ≤ _
    omega
def drEnc (cs : List UInt8) : List Seg := if 6 ≤ tk cs 0 9 then spoil cs (drMsg cs 1).2 (drMsg cs 1).1 else (drMsg cs 1).1
theorem drEnc_sz (cs : List UInt8) : msgSz (drEnc cs) ≤ 100000 := by
  unfold drEnc
  split
  · exact spoil_sz cs _ _ (drMsg_len cs 1) (drMsg_sm cs 1)
  · exact Nat.le_trans (drMsg_sz cs 1) (by decide)
set_option maxRecDepth 100000 in
set_option maxHeartbeats 4000000 in
theorem drawEncode_any (cs : List UInt8) (v : Value) (w : World) {lo : Nat} (hv : CodeAt lo w v cs) (hl : cs.length ≤ 1048576) :
    Calls Tryz.prog 13 #[v] w fun e w' => ∃ u, e = .returned (.agg #[u]) ∧ SegsAt w.heap.size w' u (drEnc cs) ∧ Below w.heap.size w w' := by
  have HV := hide hv
  obtain ⟨va, vc, rfl, _⟩ := code_form hv
  obtain ⟨x1, hx1⟩ : ∃ x, w.alloc (Obj.cells #[.slice none 0 0] 25) = x := ⟨_, rfl⟩
  have sx1 : x1.heap.size = w.heap.size + 1 := by rw [← hx1]; simp
  have bx1 : Below w.heap.size w x1 := by rw [← hx1]; exact (Below.refl _ _).alloc (Nat.le_refl _) _
  have HR1 : Hid (Box x1 w.heap.size 25 #[.slice none 0 0]) := by rw [← hx1]; exact Box.new _ _ _
  have HT1 := hide (take_any cs (.slice va cs.length vc) 0 9 x1 (At.kept kept_code HV.out bx1) hl (by decide) (by decide))
  have HDM := hide (drawMsg_any cs (.slice va cs.length vc) 1 x1 (At.kept kept_code HV.out bx1) hl (by decide))
  obtain ⟨r, hr⟩ : ∃ r, drEnc cs = r := ⟨_, rfl⟩
  have HR := hide hr
  rw [hr]
  unfold drEnc at HR
  have hA := tk_lt cs 0 9 (by decide)
  obtain ⟨A, hAe⟩ : ∃ A, tk cs 0 9 = A := ⟨_, rfl⟩
  rw [hAe] at HT1 HR hA
  have hq := drMsg_p cs 1
  have hml := drMsg_len cs 1
  have HSM := hide (drMsg_sm cs 1)
  obtain ⟨q, hqe⟩ : ∃ q, (drMsg cs 1).2 = q := ⟨_, rfl⟩
  obtain ⟨m, hme⟩ : ∃ m, (drMsg cs 1).1 = m := ⟨_, rfl⟩
  rw [hqe] at HDM HR hq
  rw [hme] at HDM HR hml HSM
  have HX1 := hide hx1
  have HB1 := hide bx1
  have HS1 := hide sx1
  have c1 : ((1 : Nat) : Int) = 1 := rfl
  have c01 : ((0 + 1 : Nat) : Int) = 1 := rfl
  have c0 : ((0 : Nat) : Int) = 0 := rfl
  rw [c1] at HDM
  rw [c0, c01] at HT1
  clear hv hr hAe hqe hme hx1 bx1 sx1 c1 c01 c0
  go_enter Tryz.func13, Tryz.ntmps13
  go_wp2_with fail
  rw [HX1.out]
  refine HT1.out.mono ?_
  rintro e y ⟨rfl, hy⟩
  (try rw [hy])
  clear hy y
  go_wp2_with fail
  refine HDM.out.mono ?_
  rintro e y ⟨am, cm, ps, rfl, hrow, hps, hby⟩
  obtain ⟨x2, hx2⟩ : ∃ x, y.alloc (Obj.cells #[.slice am m.length cm] 25) = x := ⟨_, rfl⟩
  have bx2 : Below y.heap.size y x2 := by rw [← hx2]; exact (Below.refl _ _).alloc (Nat.le_refl _) _
  have HP2 : Hid (Box x2 y.heap.size 25 #[.slice am m.length cm]) := by rw [← hx2]; exact Box.new _ _ _
  have HQ2 := hide ((HR1.out.below hby).below bx2)
  have m0 : x2.cell? ⟨y.heap.size, 0, none⟩ = some (.slice am m.length cm) := HP2.out.cell 0 (by simp)
  have r0 : x2.cell? ⟨w.heap.size, 0, none⟩ = some (.slice none 0 0) := HQ2.out.cell 0 (by simp)
  have rf : x2.frozen? ⟨w.heap.size, 0, none⟩ = false := HQ2.out.frozen 0
  have rl : w.heap.size < x2.heap.size := HQ2.out.lt
  have hrow2 := hrow.below bx2
  have HB2 := hide (bjoin (bjoin bx2 hby) HB1.out)
  have hsx := HS1.out
  have HXS := hide (Nat.le_trans hby.size bx2.size)
  have HX2 := hide hx2
  have hpl : ps.length = m.length := by rw [← hps, List.length_map]
  have HRW := hide hrow2
  have HPS := hide hps
  have hpsl := hide hpl
  clear hrow hps hby hx2 bx2 hrow2
  by_cases h6 : (A : Int) ≥ 6
  · have HX : Hid (spoil cs q m = r) := by have := HR.out; rw [if_pos (by omega)] at this; exact this
    have HSP := hide (spoil_any cs (.slice va cs.length vc) q ps am cm x2 (bb := x1.heap.size) (bd := fun b => b < x1.heap.size) (At.kept kept_code HV.out HB2.out) hl (by omega) (by rw [hpl]; exact HRW.out) (by omega) (fun e he => by
      have := HSM.out e.1 (by rw [← HPS.out]; exact List.mem_map_of_mem he)
      exact ⟨by have := this.2.1; omega, this.1⟩) (L := x1.heap.size) (by have := HB2.out.size; have := HQ2.out.lt; have := HXS.out; omega) (fun b hb => hb))
    rw [hpl, HPS.out] at HSP
    clear r0 rf rl hpl
    go_wp2_with fail
    rw [HX2.out]
    go_wp2_with fail
    refine HSP.out.mono ?_
    rintro e z ⟨u, rfl, hu, hbz⟩
    have hQ := HQ2.out.below hbz
    have r0 : z.cell? ⟨w.heap.size, 0, none⟩ = some (.slice none 0 0) := hQ.cell 0 (by simp)
    have rf : z.frozen? ⟨w.heap.size, 0, none⟩ = false := hQ.frozen 0
    have rl : w.heap.size < z.heap.size := hQ.lt
    rw [HX.out] at hu
    obtain ⟨ua, uc, rfl, _⟩ := hu.form
    have HU := hide hu
    have HBZ := hide (bjoin hbz HB2.out)
    have hbz2 := hide hbz
    have hxz : x2.heap.size ≤ z.heap.size := hbz.size
    clear hu hQ hbz
    go_wp2_with fail
    exact bodyPost_ret (v := .agg #[.slice ua r.length uc]) (by simp [results, Tryz.results13, go_sem, r0, rl]) rfl ⟨_, rfl, segs_set (L := x1.heap.size) (by omega) (by omega) HU.out _, HBZ.out.setCell (p := ⟨w.heap.size, 0, none⟩) (Nat.le_refl _) _⟩
  · have HX : Hid (m = r) := by have := HR.out; rw [if_neg (by omega)] at this; exact this
    have HFIN : Hid (∀ x, SegsAt w.heap.size (x2.setCell ⟨w.heap.size, 0, none⟩ x) (.slice am m.length cm) r ∧ Below w.heap.size w (x2.setCell ⟨w.heap.size, 0, none⟩ x)) := fun x => by
      refine ⟨?_, HB2.out.setCell (p := ⟨w.heap.size, 0, none⟩) (Nat.le_refl _) x⟩
      rw [← HX.out]
      have := (HRW.out.set (b := w.heap.size) (o := 0) (by show _ < _; omega) x).segsL (L := w.heap.size) (by omega) (by omega) (fun b hb => by show _ < _; omega)
      rw [HPS.out] at this
      exact this
    rw [← HX2.out] at r0 rf rl m0 HFIN
    clear HX
    go_wp2_with fail
    exact bodyPost_ret (v := .agg #[.slice am m.length cm]) (by simp [results, Tryz.results13, go_sem, r0, rl]) rfl ⟨_, rfl, (HFIN.out _).1, (HFIN.out _).2⟩
end Go.Proofs.YtcphfhfockjljaaGreatDoor.Msg

namespace Go.Proofs.YtcphfhfockjljaaGreatDoor.Msg
open Go.ChangeShapes Go.WideShapes Go.ChangeAt Go.RowKit
set_option linter.unusedVariables false
set_option linter.unusedSimpArgs false

/-! DrawGet -/
def drGetNames : List ByteArray := [⟨#[77, 83, 72]⟩, ⟨#[77, 83, 72]⟩, ⟨#[77, 83, 65]⟩, ⟨#[81, 80, 68]⟩, ⟨#[90, 90, 49]⟩, ⟨#[81, 65, 75]⟩, ⟨#[82, 68, 84]⟩, ⟨#[]⟩]
def drNameOf (a : Nat) (m : List Seg) : ByteArray := if 3 < a ∧ 0 < m.length then (m.getD (m.length - 1) ⟨⟨#[]⟩, []⟩).name else drGetNames.getD a ⟨#[]⟩
set_option maxRecDepth 100000 in
set_option maxHeartbeats 8000000 in
theorem drawGet_any (cs : List UInt8) (v : Value) (w : World) {lo : Nat} (hv : CodeAt lo w v cs) (hl : cs.length ≤ 1048576) :
    Calls Tryz.prog 4 #[v] w fun e w' => ∃ u, e = .returned (.tuple #[.agg #[u], .string (drNameOf (tk cs (cs.length / 2) 8) (drEnc cs)), .int .i64 ((tk cs (cs.length / 2 + 1) 7 : Nat) : Int), .int .i64 ((tk cs (cs.length / 2 + 1 + 1) 4 : Nat) : Int)]) ∧ SegsAt w.heap.size w' u (drEnc cs) ∧ Below w.heap.size w w' := by
  have HV := hide hv
  obtain ⟨va, vc, rfl, _⟩ := code_form hv
  obtain ⟨x1, hx1⟩ : ∃ x, w.alloc (Obj.cells #[.slice none 0 0] 25) = x := ⟨_, rfl⟩
  have sx1 : x1.heap.size = w.heap.size + 1 := by rw [← hx1]; simp
  have bx1 : Below w.heap.size w x1 := by rw [← hx1]; exact (Below.refl _ _).alloc (Nat.le_refl _) _
  have HR1 : Hid (Box x1 w.heap.size 25 #[.slice none 0 0]) := by rw [← hx1]; exact Box.new _ _ _
  have HTK := hide (fun (W : World) (q n : Nat) (h : Below w.heap.size w W) (hq : q ≤ 4000000) (hn : n ≤ 100) => take_any cs (.slice va cs.length vc) q n W (At.kept kept_code HV.out h) hl (by omega) (by omega))
  have HDE := hide (drawEncode_any cs (.slice va cs.length vc) x1 (At.kept kept_code HV.out bx1) hl)
  have HSZ := hide (drEnc_sz cs)
  obtain ⟨L, hL⟩ : ∃ L, cs.length = L := ⟨_, rfl⟩
  obtain ⟨H, hH⟩ : ∃ h, L / 2 = h := ⟨_, rfl⟩
  rw [hL] at HTK HDE hl ⊢
  rw [hH]
  have d1 : (L : Int).tdiv 2 = (H : Int) := by rw [Int.tdiv_eq_ediv_of_nonneg (by omega)]; omega
  have d2 : (L : Int) / 2 = (H : Int) := by omega
  have hHl : H ≤ 1048576 := by omega
  have ha := tk_lt cs H 8 (by decide)
  have hf := tk_lt cs (H + 1) 7 (by decide)
  have hc := tk_lt cs (H + 1 + 1) 4 (by decide)
  have HT1 := hide (fun W h => HTK.out W H 8 h (by omega) (by decide))
  have HT2 := hide (fun W h => HTK.out W (H + 1) 7 h (by omega) (by decide))
  have HT3 := hide (fun W h => HTK.out W (H + 1 + 1) 4 h (by omega) (by decide))
  obtain ⟨A, hA⟩ : ∃ a, tk cs H 8 = a := ⟨_, rfl⟩
  obtain ⟨F, hF⟩ : ∃ a, tk cs (H + 1) 7 = a := ⟨_, rfl⟩
  obtain ⟨C, hC⟩ : ∃ a, tk cs (H + 1 + 1) 4 = a := ⟨_, rfl⟩
  rw [hA] at HT1 ha ⊢
  rw [hF] at HT2 hf ⊢
  rw [hC] at HT3 hc ⊢
  obtain ⟨m, hm⟩ : ∃ m, drEnc cs = m := ⟨_, rfl⟩
  rw [hm] at HDE HSZ ⊢
  obtain ⟨p1, hp1⟩ : ∃ q, H + 1 = q := ⟨_, rfl⟩
  rw [hp1] at HT1 HT2 HT3
  obtain ⟨p2, hp2⟩ : ∃ q, p1 + 1 = q := ⟨_, rfl⟩
  rw [hp2] at HT2 HT3
  obtain ⟨p3, hp3⟩ : ∃ q, p2 + 1 = q := ⟨_, rfl⟩
  rw [hp3] at HT3
  have HX1 := hide hx1
  have HB1 := hide bx1
  have HS1 := hide sx1
  have hmz : m.length ≤ 100000 := by have := HSZ.out; unfold msgSz lenSum at this; omega
  clear hx1 bx1 sx1 hp1 hp2 hp3 hA hF hC hm hH hv hL
  obtain ⟨nm, hnm⟩ : ∃ t, drNameOf A m = t := ⟨_, rfl⟩
  have HNM := hide hnm
  rw [hnm]
  clear hnm
  unfold drNameOf at HNM
  go_enter Tryz.func4, Tryz.ntmps4
  go_wp2_with fail
  rw [HX1.out]
  refine HDE.out.mono ?_
  rintro e y ⟨u, rfl, hu, hby⟩
  obtain ⟨ua, uc, rfl, hform⟩ := hu.form
  obtain ⟨N, hN⟩ : ∃ n, m.length = n := ⟨_, rfl⟩
  obtain ⟨x2, hx2⟩ : ∃ x, y.alloc (Obj.cells #[.slice ua m.length uc] 25) = x := ⟨_, rfl⟩
  rw [hN] at hx2 ⊢
  have bx2 : Below y.heap.size y x2 := by rw [← hx2]; exact (Below.refl _ _).alloc (Nat.le_refl _) _
  have HP2 : Hid (Box x2 y.heap.size 25 #[.slice ua N uc]) := by rw [← hx2]; exact Box.new _ _ _
  have HQ2 := hide ((HR1.out.below hby).below bx2)
  have HB2 := hide (bjoin (bjoin bx2 hby) HB1.out)
  have HU2 := hide (At.kept kept_seg hu (bjoin bx2 (Below.refl _ _)))
  have HX2 := hide hx2
  have HN := hide hN
  have HUF : Hid (∀ k (h : k < m.length), ∃ b off, ua = some ⟨b, off, none⟩ ∧ b < y.heap.size ∧ y.cell? ⟨b, off + k * 2, none⟩ = some (.string (m[k]).name)) := fun k h => by
    obtain ⟨b, off, e1, _, l1, r0, _⟩ := hform k h
    exact ⟨b, off, e1, l1, r0⟩
  have HYX := hide bx2
  clear hu hby hx2 bx2 hform hN
  have hL2 : (0 : Int) ≤ (L : Int) := by omega
  go_wp2_with fail
  (try rw [HX2.out])
  refine (HT1.out _ HB2.out).mono ?_
  rintro e z ⟨rfl, hz⟩
  (try rw [hz])
  clear hz z
  go_wp2_with fail
  refine (HT2.out _ HB2.out).mono ?_
  rintro e z ⟨rfl, hz⟩
  (try rw [hz])
  clear hz z
  go_wp2_with fail
  refine (HT3.out _ HB2.out).mono ?_
  rintro e z ⟨rfl, hz⟩
  (try rw [hz])
  clear hz z
  obtain ⟨x3, hx3⟩ : ∃ x, (x2.alloc (Obj.cells #[.string ⟨#[77, 83, 72]⟩, .string ⟨#[77, 83, 72]⟩, .string ⟨#[77, 83, 65]⟩, .string ⟨#[81, 80, 68]⟩, .string ⟨#[90, 90, 49]⟩, .string ⟨#[81, 65, 75]⟩, .string ⟨#[82, 68, 84]⟩, .string ⟨#[]⟩] 9)) = x := ⟨_, rfl⟩
  have bx3 : Below x2.heap.size x2 x3 := by rw [← hx3]; exact (Below.refl _ _).alloc (Nat.le_refl _) _
  have HNB : Hid (Box x3 x2.heap.size 9 #[.string ⟨#[77, 83, 72]⟩, .string ⟨#[77, 83, 72]⟩, .string ⟨#[77, 83, 65]⟩, .string ⟨#[81, 80, 68]⟩, .string ⟨#[90, 90, 49]⟩, .string ⟨#[81, 65, 75]⟩, .string ⟨#[82, 68, 84]⟩, .string ⟨#[]⟩]) := by rw [← hx3]; exact Box.new _ _ _
  obtain ⟨g, hg⟩ : ∃ g, drGetNames.getD A ⟨#[]⟩ = g := ⟨_, rfl⟩
  have n0 : x3.cell? ⟨x2.heap.size, A, none⟩ = some (.string g) := by
    rw [← hg]
    match A, ha with
    | 0, _ => exact HNB.out.cell 0 (by simp)
    | 1, _ => exact HNB.out.cell 1 (by simp)
    | 2, _ => exact HNB.out.cell 2 (by simp)
    | 3, _ => exact HNB.out.cell 3 (by simp)
    | 4, _ => exact HNB.out.cell 4 (by simp)
    | 5, _ => exact HNB.out.cell 5 (by simp)
    | 6, _ => exact HNB.out.cell 6 (by simp)
    | 7, _ => exact HNB.out.cell 7 (by simp)
  rw [hg] at HNM
  have hQ3 := HQ2.out.below bx3
  have m0 : x3.cell? ⟨y.heap.size, 0, none⟩ = some (.slice ua N uc) := (HP2.out.below bx3).cell 0 (by simp)
  have r0 : x3.cell? ⟨w.heap.size, 0, none⟩ = some (.slice none 0 0) := hQ3.cell 0 (by simp)
  have rf : x3.frozen? ⟨w.heap.size, 0, none⟩ = false := hQ3.frozen 0
  have rl : w.heap.size < x3.heap.size := hQ3.lt
  have hyx3 := bjoin bx3 HYX.out
  have HB3 := hide (bjoin bx3 HB2.out)
  have sx1 := HS1.out
  have HFIN : Hid (∀ x, SegsAt w.heap.size (x3.setCell ⟨w.heap.size, 0, none⟩ x) (.slice ua N uc) m ∧ Below w.heap.size w (x3.setCell ⟨w.heap.size, 0, none⟩ x)) := fun x => by
    refine ⟨segs_set (L := x1.heap.size) (by omega) (by omega) ?_ x, HB3.out.setCell (p := ⟨w.heap.size, 0, none⟩) (Nat.le_refl _) x⟩
    have := At.kept kept_seg HU2.out bx3
    rw [HN.out] at this
    exact this
  have HYX3 := hide hyx3
  rw [← hx3] at n0 m0 r0 rf rl HFIN
  have ha8 : (A : Int) < 8 := by omega
  have ha0 : (0 : Int) ≤ (A : Int) := by omega
  have HX3 := hide hx3
  clear bx3 hQ3 hyx3 hg hx3
  by_cases hA3 : (A : Int) > 3
  · by_cases hN0 : (N : Int) > 0
    · have hNm := HN.out
      obtain ⟨K, hK⟩ : ∃ K, N - 1 = K := ⟨_, rfl⟩
      obtain ⟨b, off, rfl, hlb, hcell⟩ := HUF.out K (by omega)
      have e1 : IntKind.i64.wrap ((N : Int) - 1) = (K : Int) := by rw [IntKind.wrap_i64]; omega
      have hkN : (K : Int) < (N : Int) := by omega
      have hk0 : (0 : Int) ≤ (K : Int) := by omega
      obtain ⟨t, ht⟩ : ∃ t, (m[K]'(by omega)).name = t := ⟨_, rfl⟩
      rw [ht] at hcell
      have HX : Hid (t = nm) := by
        have := HNM.out
        rw [if_pos ⟨by omega, by omega⟩, hNm, hK, List.getD_eq_getElem?_getD, List.getElem?_eq_getElem (by omega)] at this
        rw [← this, ← ht]; exact rfl
      have q0 : x3.cell? ⟨b, off + K * 2, none⟩ = some (.string t) := (HYX3.out.cell (p := ⟨b, off + K * 2, none⟩) hlb).trans hcell
      rw [← HX3.out] at q0
      clear hcell ht hNm hK
      go_wp2_with fail
      refine bodyPost_ret (v := .tuple #[.agg #[.slice (some ⟨b, off, none⟩) N uc], .string t, .int .i64 (F : Int), .int .i64 (C : Int)]) (by simp [results, Tryz.results4, go_sem, r0, rl]) rfl ?_
      exact ⟨_, by rw [HX.out], (HFIN.out _).1, (HFIN.out _).2⟩
    · have HX : Hid (g = nm) := by have := HNM.out; rw [if_neg (by have := HN.out; omega)] at this; exact this
      go_wp2_with fail
      refine bodyPost_ret (v := .tuple #[.agg #[.slice ua N uc], .string g, .int .i64 (F : Int), .int .i64 (C : Int)]) (by simp [results, Tryz.results4, go_sem, r0, rl]) rfl ?_
      exact ⟨_, by rw [HX.out], (HFIN.out _).1, (HFIN.out _).2⟩
  · have HX : Hid (g = nm) := by have := HNM.out; rw [if_neg (by omega)] at this; exact this
    go_wp2_with fail
    refine bodyPost_ret (v := .tuple #[.agg #[.slice ua N uc], .string g, .int .i64 (F : Int), .int .i64 (C : Int)]) (by simp [results, Tryz.results4, go_sem, r0, rl]) rfl ?_
    exact ⟨_, by rw [HX.out], (HFIN.out _).1, (HFIN.out _).2⟩
end Go.Proofs.YtcphfhfockjljaaGreatDoor.Msg
