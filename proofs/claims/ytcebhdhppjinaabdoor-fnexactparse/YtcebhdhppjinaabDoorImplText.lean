import Derived.Test.YtcebhdhppjinaabDoorImplHead
namespace Go.Proofs.YtcebhdhppjinaabDoor.Msg
open Go.ChangeShapes Go.WideShapes Go.ChangeAt Go.RowKit
set_option linter.unusedVariables false
set_option linter.unusedSimpArgs false

theorem byte_13 {c : UInt8} : decide (c.toNat = 13) = (c == 13) := by
  by_cases h : c = 13
  · subst h; rfl
  · have h1 : c.toNat ≠ 13 := fun e => h (UInt8.toNat_inj.1 e)
    rw [decide_eq_false h1]; symm; rw [beq_eq_false_iff_ne]; exact h
theorem cutGo_all (p : UInt8 → Bool) (c : UInt8) : ∀ (l cur : List UInt8), (cutGo c cur l).all (fun q => q.all p) = (cur.all p && l.all (fun x => x == c || p x))
  | [], cur => by simp [cutGo]
  | x :: l, cur => by
    unfold cutGo
    by_cases hx : x = c
    · rw [if_pos hx, List.all_cons, cutGo_all p c l []]
      simp [hx]
    · rw [if_neg hx, cutGo_all p c l (cur ++ [x])]
      have : (x == c) = false := by rw [beq_eq_false_iff_ne]; exact hx
      simp [this, Bool.and_assoc]
theorem bytes_pieces (s : ByteArray) : (cutL 13 s.data.toList).all (fun q => q.all plainC) = bytesB s := by
  unfold cutL bytesB
  rw [cutGo_all]
  simp only [List.all_nil, Bool.true_and]
  congr 1
  funext x
  unfold byteC
  rw [byte_13]
theorem plainB_txt (p : List UInt8) : plainB (txt p) = p.all plainC := by unfold plainB; rw [txt_data]

/-- the code of a text whose first segment is not looked at -/
def codeB (s : ByteArray) : Nat := if s.size = 0 ∨ 40000 < s.size then 1 else if bytesB s = false then 2 else if headB s = true then 0 else 3
theorem ret_code {a : Int} {b : Nat} (h : a = (b : Int)) : Ending.returned (.int .i64 a) = .returned (.int .i64 (b : Int)) := by rw [h]

set_option maxRecDepth 100000 in
set_option maxHeartbeats 4000000 in
theorem textCode_any (s : ByteArray) (w : World) (hs : s.size ≤ 1048576) (hm : Mx w) :
    Calls Tryd.prog 16 #[.string s] w fun e w' => e = .returned (.int .i64 (codeB s : Int)) ∧ Below w.heap.size w w' := by
  have HB0 : Hid (Below w.heap.size w w) := Below.refl _ _
  have HM := hide hm
  by_cases h0 : s.size = 0
  · have h0' : s.toList = [] := by rw [ByteArray.toList_eq]; exact List.length_eq_zero_iff.1 (by simpa using h0)
    have h0e : s.toList.isEmpty = true := by rw [h0']; rfl
    have HX : Hid ((1 : Int) = (codeB s : Int)) := by unfold codeB; rw [if_pos (Or.inl h0)]; exact rfl
    clear h0
    go_enter Tryd.func16, Tryd.ntmps16
    go_wp2_with fail
    go_ret
    exact ⟨ret_code HX.out, HB0.out⟩
  have h0' : ¬ s.toList = [] := fun h => h0 (by rw [ByteArray.toList_eq] at h; have := congrArg List.length h; simpa using this)
  have h0e : s.toList.isEmpty = false := by rw [List.isEmpty_eq_false_iff]; exact h0'
  by_cases h4 : (40000 : Int) < (s.size : Int)
  · have HX : Hid ((1 : Int) = (codeB s : Int)) := by unfold codeB; rw [if_pos (Or.inr (by omega))]; exact rfl
    clear h0
    go_enter Tryd.func16, Tryd.ntmps16
    go_wp2_with fail
    go_ret
    exact ⟨ret_code HX.out, HB0.out⟩
  have HC0 : Hid (codeB s = if bytesB s = false then 2 else if headB s = true then 0 else 3) := by
    have : codeB s = if bytesB s = false then 2 else if headB s = true then 0 else 3 := by unfold codeB; rw [if_neg (by omega)]
    exact this
  have HBP := hide (bytes_pieces s)
  have hpos := cutL_pos 13 s.data.toList
  have hlen : (cutL 13 s.data.toList).length ≤ 40001 := by have := cutL_len 13 s.data.toList; simp at this; omega
  have HSZ : Hid (∀ p ∈ cutL 13 s.data.toList, p.length ≤ 40000) := fun p hp => by have := cutL_sz 13 s.data.toList p hp; simp at this; omega
  obtain ⟨ps, hps⟩ : ∃ ps, cutL 13 s.data.toList = ps := ⟨_, rfl⟩
  have HPS := hide hps
  rw [hps] at hpos hlen HSZ HBP
  clear hps h0
  have h40 : s.size ≤ 40000 := by omega
  go_enter Tryd.func16, Tryd.ntmps16
  go_wp2_with fail
  refine (implCut_any s 13 _ hs hm).mono ?_
  rintro e Wb ⟨u, rfl, hu, hb1⟩
  rw [HPS.out] at hu
  obtain ⟨g, cap, rfl, hg, hgl, hcap, hcm, hcell⟩ := pieces_form hu hpos
  have HC := hide hcell
  have HB1 := hide hb1
  clear hu hcell hb1 hm
  go_wp2_with fail
  go_loopg [15] ps.length (fun n i wr => ∃ k : Nat, k ≤ ps.length ∧ n = ps.length - k ∧ i = .int .i64 k ∧ (ps.take k).all (fun q => q.all plainC) = true ∧ wr = Wb)
  case atStart => exact ⟨0, Nat.zero_le _, by simp, rfl, rfl, rfl⟩
  case round =>
    obtain ⟨k, hk, rfl, rfl, hall, hwr⟩ := hrel
    subst hwr
    have HA := hide hall
    clear hall
    by_cases hlt : k < ps.length
    · have hki : (k : Int) < (ps.length : Int) := by omega
      have hpc := (HC.out k hlt).1
      have hpz : (txt ps[k]).size ≤ 9223372036854775807 := by rw [txt_size]; have := HSZ.out _ (List.getElem_mem hlt); omega
      have HPT := hide (plainB_txt ps[k])
      go_wp2_with fail
      refine (isPlain_any (txt ps[k]) _ hpz).mono ?_
      rintro e w' ⟨rfl, rfl⟩
      rw [HPT.out]
      cases hp : ps[k].all plainC
      · have HF := hide (all_fail (p := fun q : List UInt8 => q.all plainC) hlt hp)
        have HX : Hid ((2 : Int) = (codeB s : Int)) := by rw [HC0.out, if_pos (by rw [← HBP.out]; exact HF.out)]; exact rfl
        clear hp
        go_wp2_with fail
        go_ret
        exact ⟨ret_code HX.out, HB1.out⟩
      · have HF := hide (all_step (p := fun q : List UInt8 => q.all plainC) hlt HA.out hp)
        clear hp
        go_wp2_with fail
        go_roundg (ps.length - (k + 1))
        case measure => omega
        case rel => exact ⟨k + 1, by omega, rfl, by go_num, HF.out, rfl⟩
    · have HBT : Hid (bytesB s = true) := by rw [← HBP.out]; exact all_done (by omega) HA.out
      have hki : ¬ (k : Int) < (ps.length : Int) := by omega
      go_wp2_with fail
      refine (hasHeader_any s _ h40).mono ?_
      rintro e w' ⟨rfl, hb2⟩
      have HB2 := hide (bjoin hb2 HB1.out)
      clear hb2
      cases hh : headB s
      · have HX : Hid ((3 : Int) = (codeB s : Int)) := by rw [HC0.out, if_neg (by rw [HBT.out]; simp), if_neg (by rw [hh]; simp)]; exact rfl
        clear hh
        go_wp2_with fail
        go_ret
        exact ⟨ret_code HX.out, HB2.out⟩
      · have HX : Hid ((0 : Int) = (codeB s : Int)) := by rw [HC0.out, if_neg (by rw [HBT.out]; simp), if_pos hh]; exact rfl
        clear hh
        go_wp2_with fail
        go_ret
        exact ⟨ret_code HX.out, HB2.out⟩
end Go.Proofs.YtcebhdhppjinaabDoor.Msg
