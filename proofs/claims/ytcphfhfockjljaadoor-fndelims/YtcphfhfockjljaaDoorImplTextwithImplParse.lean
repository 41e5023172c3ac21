import Derived.Test.YtcphfhfockjljaaDoorParseSpecwithImplWordwithImplHead
namespace Go.Proofs.YtcphfhfockjljaaDoor.Msg
open Go.ChangeShapes Go.WideShapes Go.ChangeAt Go.RowKit
set_option linter.unusedVariables false
set_option linter.unusedSimpArgs false

theorem byte_13 {c : UInt8} : decide (c.toNat = 13) = (c == 13) := by
  by_cases h : c = 13
  · subst h; rfl
  · have h1 : c.toNat ≠ 13 := fun e => h (UInt8.toNat_inj.1 e)
    rw [decide_eq_false h1]; symm; rw [beq_eq_false_iff_ne]; exact h
theorem cutGo_all (p : UInt8 → Bool) (c : UInt8) : ∀ (l cur : List UInt8), (cutGo c cur l).all (fun q => q.all p) = (cur.all p && l.all (fun x => x == c || p x))
  | [], cur => by simp [cutGo]
  | x :: l, cur => by
    unfold cutGo
    by_cases hx : x = c
    · rw [if_pos hx, List.all_cons, cutGo_all p c l []]
      simp [hx]
    · rw [if_neg hx, cutGo_all p c l (cur ++ [x])]
      have : (x == c) = false := by rw [beq_eq_false_iff_ne]; exact hx
      simp [this, Bool.and_assoc]
theorem bytes_pieces (s : ByteArray) : (cutL 13 s.data.toList).all (fun q => q.all plainC) = bytesB s := by
  unfold cutL bytesB
  rw [cutGo_all]
  simp only [List.all_nil, Bool.true_and]
  congr 1
  funext x
  unfold byteC
  rw [byte_13]
theorem plainB_txt (p : List UInt8) : plainB (txt p) = p.all plainC := by unfold plainB; rw [txt_data]

/-- the code of a text whose first segment is not looked at -/
def codeB (s : ByteArray) : Nat := if s.size = 0 ∨ 40000 < s.size then 1 else if bytesB s = false then 2 else if headB s = true then 0 else 3
theorem ret_code {a : Int} {b : Nat} (h : a = (b : Int)) : Ending.returned (.int .i64 a) = .returned (.int .i64 (b : Int)) := by rw [h]

set_option maxRecDepth 100000 in
set_option maxHeartbeats 4000000 in
theorem textCode_any (s : ByteArray) (w : World) (hs : s.size ≤ 1048576) (hm : Mx w) :
    Calls Tryd.prog 19 #[.string s] w fun e w' => e = .returned (.int .i64 (codeB s : Int)) ∧ Below w.heap.size w w' := by
  have HB0 : Hid (Below w.heap.size w w) := Below.refl _ _
  have HM := hide hm
  by_cases h0 : s.size = 0
  · have h0' : s.toList = [] := by rw [ByteArray.toList_eq]; exact List.length_eq_zero_iff.1 (by simpa using h0)
    have h0e : s.toList.isEmpty = true := by rw [h0']; rfl
    have HX : Hid ((1 : Int) = (codeB s : Int)) := by unfold codeB; rw [if_pos (Or.inl h0)]; exact rfl
    clear h0
    go_enter Tryd.func19, Tryd.ntmps19
    go_wp2_with fail
    go_ret
    exact ⟨ret_code HX.out, HB0.out⟩
  have h0' : ¬ s.toList = [] := fun h => h0 (by rw [ByteArray.toList_eq] at h; have := congrArg List.length h; simpa using this)
  have h0e : s.toList.isEmpty = false := by rw [List.isEmpty_eq_false_iff]; exact h0'
  by_cases h4 : (40000 : Int) < (s.size : Int)
  · have HX : Hid ((1 : Int) = (codeB s : Int)) := by unfold codeB; rw [if_pos (Or.inr (by omega))]; exact rfl
    clear h0
    go_enter Tryd.func19, Tryd.ntmps19
    go_wp2_with fail
    go_ret
    exact ⟨ret_code HX.out, HB0.out⟩
  have HC0 : Hid (codeB s = if bytesB s = false then 2 else if headB s = true then 0 else 3) := by
    have : codeB s = if bytesB s = false then 2 else if headB s = true then 0 else 3 := by unfold codeB; rw [if_neg (by omega)]
    exact this
  have HBP := hide (bytes_pieces s)
  have hpos := cutL_pos 13 s.data.toList
  have hlen : (cutL 13 s.data.toList).length ≤ 40001 := by have := cutL_len 13 s.data.toList; simp at this; omega
  have HSZ : Hid (∀ p ∈ cutL 13 s.data.toList, p.length ≤ 40000) := fun p hp => by have := cutL_sz 13 s.data.toList p hp; simp at this; omega
  obtain ⟨ps, hps⟩ : ∃ ps, cutL 13 s.data.toList = ps := ⟨_, rfl⟩
  have HPS := hide hps
  rw [hps] at hpos hlen HSZ HBP
  clear hps h0
  have h40 : s.size ≤ 40000 := by omega
  go_enter Tryd.func19, Tryd.ntmps19
  go_wp2_with fail
  refine (implCut_any s 13 _ hs hm).mono ?_
  rintro e Wb ⟨u, rfl, hu, hb1⟩
  rw [HPS.out] at hu
  obtain ⟨g, cap, rfl, hg, hgl, hcap, hcm, hcell⟩ := pieces_form hu hpos
  have HC := hide hcell
  have HB1 := hide hb1
  clear hu hcell hb1 hm
  go_wp2_with fail
  go_loopg [15] ps.length (fun n i wr => ∃ k : Nat, k ≤ ps.length ∧ n = ps.length - k ∧ i = .int .i64 k ∧ (ps.take k).all (fun q => q.all plainC) = true ∧ wr = Wb)
  case atStart => exact ⟨0, Nat.zero_le _, by simp, rfl, rfl, rfl⟩
  case round =>
    obtain ⟨k, hk, rfl, rfl, hall, hwr⟩ := hrel
    subst hwr
    have HA := hide hall
    clear hall
    by_cases hlt : k < ps.length
    · have hki : (k : Int) < (ps.length : Int) := by omega
      have hpc := (HC.out k hlt).1
      have hpz : (txt ps[k]).size ≤ 9223372036854775807 := by rw [txt_size]; have := HSZ.out _ (List.getElem_mem hlt); omega
      have HPT := hide (plainB_txt ps[k])
      go_wp2_with fail
      refine (isPlain_any (txt ps[k]) _ hpz).mono ?_
      rintro e w' ⟨rfl, rfl⟩
      rw [HPT.out]
      cases hp : ps[k].all plainC
      · have HF := hide (all_fail (p := fun q : List UInt8 => q.all plainC) hlt hp)
        have HX : Hid ((2 : Int) = (codeB s : Int)) := by rw [HC0.out, if_pos (by rw [← HBP.out]; exact HF.out)]; exact rfl
        clear hp
        go_wp2_with fail
        go_ret
        exact ⟨ret_code HX.out, HB1.out⟩
      · have HF := hide (all_step (p := fun q : List UInt8 => q.all plainC) hlt HA.out hp)
        clear hp
        go_wp2_with fail
        go_roundg (ps.length - (k + 1))
        case measure => omega
        case rel => exact ⟨k + 1, by omega, rfl, by go_num, HF.out, rfl⟩
    · have HBT : Hid (bytesB s = true) := by rw [← HBP.out]; exact all_done (by omega) HA.out
      have hki : ¬ (k : Int) < (ps.length : Int) := by omega
      go_wp2_with fail
      refine (hasHeader_any s _ h40).mono ?_
      rintro e w' ⟨rfl, hb2⟩
      have HB2 := hide (bjoin hb2 HB1.out)
      clear hb2
      cases hh : headB s
      · have HX : Hid ((3 : Int) = (codeB s : Int)) := by rw [HC0.out, if_neg (by rw [HBT.out]; simp), if_neg (by rw [hh]; simp)]; exact rfl
        clear hh
        go_wp2_with fail
        go_ret
        exact ⟨ret_code HX.out, HB2.out⟩
      · have HX : Hid ((0 : Int) = (codeB s : Int)) := by rw [HC0.out, if_neg (by rw [HBT.out]; simp), if_pos hh]; exact rfl
        clear hh
        go_wp2_with fail
        go_ret
        exact ⟨ret_code HX.out, HB2.out⟩
end Go.Proofs.YtcphfhfockjljaaDoor.Msg

namespace Go.Proofs.YtcphfhfockjljaaDoor.Msg
open Go.ChangeShapes Go.WideShapes Go.ChangeAt Go.RowKit
set_option linter.unusedVariables false
set_option linter.unusedSimpArgs false

theorem code_err {s : ByteArray} (h : codeB s ≠ 0) : parseL s = .error (codeB s) ∧ (((codeB s : Nat) : Int) != 0) = true := by
  refine ⟨?_, by rw [bne_iff_ne]; omega⟩
  unfold codeB at h ⊢
  unfold parseL
  by_cases h1 : s.size = 0 ∨ 40000 < s.size
  · rw [if_pos h1, if_pos h1]
  · rw [if_neg h1] at h ⊢
    rw [if_neg h1]
    by_cases h2 : bytesB s = false
    · rw [if_pos h2, if_pos h2]
    · rw [if_neg h2] at h ⊢
      rw [if_neg h2]
      by_cases h3 : headB s = true
      · rw [if_pos h3] at h; exact absurd rfl h
      · rw [if_neg h3, dif_neg h3]
theorem code_ok {s : ByteArray} (h : codeB s = 0) : s.size ≤ 40000 ∧ bytesB s = true ∧ headB s = true := by
  unfold codeB at h
  by_cases h1 : s.size = 0 ∨ 40000 < s.size
  · rw [if_pos h1] at h; cases h
  · rw [if_neg h1] at h
    by_cases h2 : bytesB s = false
    · rw [if_pos h2] at h; cases h
    · rw [if_neg h2] at h
      by_cases h3 : headB s = true
      · exact ⟨by omega, by simpa using h2, h3⟩
      · rw [if_neg h3] at h; cases h

set_option maxRecDepth 100000 in
set_option maxHeartbeats 4000000 in
theorem parse_code (s : ByteArray) (w : World) (hs : s.size ≤ 1048576) (hm : Mx w) (hc : codeB s ≠ 0) :
    Calls Tryd.prog 9 #[.string s] w (ParsePost w (parseL s)) := by
  obtain ⟨hX, hne⟩ := code_err hc
  have HX := hide hX
  clear hX hc
  have HB0 : Hid (Below w.heap.size w (w.alloc (Obj.cells #[.slice none 0 0] 25))) := (Below.refl w.heap.size w).alloc (Nat.le_refl _) _
  have HM0 := hide (hm.kept HB0.out)
  go_enter Tryd.func9, Tryd.ntmps9
  go_wp2_with fail
  refine (textCode_any s _ hs HM0.out).mono ?_
  rintro e W1 ⟨rfl, hb1⟩
  have hb2 : Below (w.heap.size + 1) (w.alloc (Obj.cells #[.slice none 0 0] 25)) W1 := by simpa using hb1
  have hq1 : W1.cell? ⟨w.heap.size, 0, none⟩ = some (.slice none 0 0) := by rw [hb2.cell (p := ⟨w.heap.size, 0, none⟩) (by simp)]; simp
  have hq2 : W1.frozen? ⟨w.heap.size, 0, none⟩ = false := by rw [hb2.frozen (p := ⟨w.heap.size, 0, none⟩) (by simp)]; simp
  have hq3 : w.heap.size < W1.heap.size := by have := hb2.size; simp at this; omega
  have HB1 : Hid (Below w.heap.size w W1) := HB0.out.trans (hb2.mono (by omega))
  go_wp2_with fail
  exact bodyPost_ret (v := .tuple #[.agg #[.slice none 0 0], .int .i64 (codeB s : Int)]) (by simp [results, Tryd.results9, go_sem, hq1, hq2, hq3]) rfl (post_err HX.out rfl (HB1.out.setCell (by simp) _))

theorem segL_code {d : ByteArray} {hd : d.size = 5} {i n : Nat} {p : List UInt8} (h : segL d hd i p = .error n) : ((n : Int) != 0) = true := by
  rw [bne_iff_ne]
  unfold segL at h
  split at h
  · injection h with h; omega
  · split at h
    · injection h with h; omega
    · split at h
      · injection h with h; omega
      · split at h
        · injection h with h; omega
        · cases h
theorem segL_name {d : ByteArray} {hd : d.size = 5} {i : Nat} {p : List UInt8} {x : Seg} (h : segL d hd i p = .ok x) : x.name.size ≤ p.length := by
  unfold segL at h
  split at h
  · cases h
  · split at h
    · cases h
    · split at h
      · cases h
      · split at h
        · cases h
        · injection h with h
          subst h
          rw [txt_size, List.length_take]; omega
theorem cutGo_first (c : UInt8) : ∀ (l cur : List UInt8), ∃ t rest, cutGo c cur l = (cur ++ t) :: rest ∧ (l = t ∨ ∃ r, l = t ++ c :: r)
  | [], cur => ⟨[], [], by simp [cutGo], .inl rfl⟩
  | x :: l, cur => by
    unfold cutGo
    by_cases hx : x = c
    · rw [if_pos hx]
      exact ⟨[], cutGo c [] l, by simp, .inr ⟨l, by rw [hx]; rfl⟩⟩
    · rw [if_neg hx]
      obtain ⟨t, rest, h1, h2⟩ := cutGo_first c l (cur ++ [x])
      refine ⟨x :: t, rest, by rw [h1]; simp, ?_⟩
      rcases h2 with h2 | ⟨r, h2⟩
      · exact .inl (by rw [h2])
      · exact .inr ⟨r, by rw [h2]; rfl⟩
theorem cutL_first (c : UInt8) (l : List UInt8) : ∃ t rest, cutL c l = t :: rest ∧ (l = t ∨ ∃ r, l = t ++ r) := by
  obtain ⟨t, rest, h1, h2⟩ := cutGo_first c l []
  refine ⟨t, rest, by unfold cutL; rw [h1]; rfl, ?_⟩
  rcases h2 with h2 | ⟨r, h2⟩
  · exact .inl h2
  · exact .inr ⟨_, h2⟩
theorem cutGo_no (c : UInt8) : ∀ (l cur : List UInt8), (c ∉ cur) → ∀ t ∈ cutGo c cur l, c ∉ t
  | [], cur, h, t, ht => by
    simp only [cutGo, List.mem_singleton] at ht
    rw [ht]; exact h
  | x :: l, cur, h, t, ht => by
    unfold cutGo at ht
    by_cases hx : x = c
    · rw [if_pos hx, List.mem_cons] at ht
      rcases ht with ht | ht
      · rw [ht]; exact h
      · exact cutGo_no c l [] (by simp) t ht
    · rw [if_neg hx] at ht
      exact cutGo_no c l (cur ++ [x]) (by simp [h]; exact fun e => hx e.symm) t ht
theorem cutL_no (c : UInt8) (l : List UInt8) (t : List UInt8) (h : t ∈ cutL c l) : c ∉ t := cutGo_no c l [] (by simp) t h
theorem head_P {s : ByteArray} (h : headB s = true) (hd : (s.extract 3 8).size = 5) (h0 : 0 < (piecesL s.data.toList).length) : HeadP (s.extract 3 8) hd ((piecesL s.data.toList)[0]) := by
  have hp8 := piece_first h h0
  obtain ⟨h8, hm, hdl, hsep⟩ := head_parts h
  obtain ⟨h2, e⟩ := piecesL_at s.data.toList 0 h0
  have hl : 8 ≤ s.data.toList.length := by simpa using h8
  obtain ⟨t, rest, hc, ht⟩ := cutL_first 13 s.data.toList
  have e0 : (piecesL s.data.toList)[0] = t := by rw [e]; simp only [hc, List.getElem_cons_zero]
  rw [e0] at hp8 ⊢
  refine ⟨hp8, ?_, ?_⟩
  · have hm' : s.data.toList.take 3 = [77, 83, 72] := by
      have := beq_iff_eq.1 hm
      rw [txt_extract, txt_toList] at this
      simpa using this
    rw [← hm']
    rcases ht with ht | ⟨r, ht⟩
    · rw [ht]
    · rw [ht, List.take_append_of_le_length (by omega)]
  · have hd0 : (s.extract 3 8)[0] = s[3] := marks_at s h8 (by omega)
    rw [hd0, List.head?_drop]
    by_cases ht8 : t.length ≤ 8
    · rw [List.getElem?_eq_none ht8]; rfl
    · have ht8' : 8 < t.length := by omega
      have hlt8 : 8 < s.data.toList.length := by
        rcases ht with ht | ⟨r, ht⟩
        · rw [ht]; exact ht8'
        · rw [ht, List.length_append]; omega
      have hs8 : 8 < s.size := by simpa using hlt8
      have hg : t[8] = s[8] := by
        have : s.data.toList[8]'hlt8 = t[8] := by
          rcases ht with ht | ⟨r, ht⟩
          · simp only [ht]
          · simp only [ht]; rw [List.getElem_append_left ht8']
        rw [← this]; rfl
      rw [List.getElem?_eq_getElem ht8', hg]
      show (s[8] != s[3]) = false
      rcases hsep with hsep | ⟨_, hsep | hsep⟩
      · omega
      · exfalso
        have h13 : t[8] = 13 := by rw [hg]; exact UInt8.toNat_inj.1 hsep
        exact cutL_no 13 s.data.toList t (by rw [hc]; simp) (by rw [← h13]; exact List.getElem_mem ht8')
      · rw [UInt8.toNat_inj.1 hsep]; simp
theorem pieces_plain {s : ByteArray} (h : bytesB s = true) (i : Nat) (hi : i < (piecesL s.data.toList).length) : ∀ x ∈ (piecesL s.data.toList)[i], plainC x = true := by
  obtain ⟨h2, e⟩ := piecesL_at s.data.toList i hi
  rw [e]
  rw [← bytes_pieces, List.all_eq_true] at h
  have := h _ (List.getElem_mem h2)
  rw [List.all_eq_true] at this
  exact this

theorem seg_put2 {Wc WR W6 : World} {a1 : Option Addr} {cap1 : Nat} {acc : List Seg} {us : List Value} {bss : List (List Nat)} {name : ByteArray} {gs : List Field} {bs3 : List Nat} {u : Value}
    (HSB : SegBuf (Wc.heap.size + 1) WR (.slice a1 acc.length cap1) acc us bss) (hws : Wc.heap.size < WR.heap.size) (hb6 : Below WR.heap.size WR W6) (hbr6 : Below Wc.heap.size Wc W6)
    (hoc : W6.cell? ⟨Wc.heap.size, 0, none⟩ = some (.slice a1 acc.length cap1)) (hof : W6.frozen? ⟨Wc.heap.size, 0, none⟩ = false) (hn : name.size ≤ 9223372036854775807)
    (hO3 : OFields W6 u gs bs3) (hnd3 : bs3.Nodup) (hfr3 : ∀ b ∈ bs3, WR.heap.size ≤ b) {g7 cap8 : Nat} {w7 : World}
    (hown : w7.ownsRow (Wc.heap.size + 1) 44 2 (.slice (some ⟨g7, 0, none⟩) (acc.length + 1) cap8) (acc.length + 1) (segCells acc us ++ [.string name, u]))
    (hgrow : (W6.alloc (Obj.cells #[.string name, u] 44)).grownBy w7 (Value.slice a1 acc.length cap1).ownBlock) (hat : (Value.slice a1 acc.length cap1).ownBlock = some g7 ∨ g7 = W6.heap.size + 1) :
    w7.cell? ⟨Wc.heap.size, 0, none⟩ = some (.slice a1 acc.length cap1) ∧ w7.frozen? ⟨Wc.heap.size, 0, none⟩ = false ∧
    ∃ (us' : List Value) (bss' : List (List Nat)), SegBuf (Wc.heap.size + 1) (w7.setCell ⟨Wc.heap.size, 0, none⟩ (.slice (some ⟨g7, 0, none⟩) (acc.length + 1) cap8)) (.slice (some ⟨g7, 0, none⟩) (acc.length + 1) cap8) (acc ++ [⟨name, gs⟩]) us' bss' ∧
      (w7.setCell ⟨Wc.heap.size, 0, none⟩ (.slice (some ⟨g7, 0, none⟩) (acc.length + 1) cap8)).cell? ⟨Wc.heap.size, 0, none⟩ = some (.slice (some ⟨g7, 0, none⟩) (acc.length + 1) cap8) ∧
      (w7.setCell ⟨Wc.heap.size, 0, none⟩ (.slice (some ⟨g7, 0, none⟩) (acc.length + 1) cap8)).frozen? ⟨Wc.heap.size, 0, none⟩ = false ∧
      Below Wc.heap.size Wc (w7.setCell ⟨Wc.heap.size, 0, none⟩ (.slice (some ⟨g7, 0, none⟩) (acc.length + 1) cap8)) ∧ Wc.heap.size < (w7.setCell ⟨Wc.heap.size, 0, none⟩ (.slice (some ⟨g7, 0, none⟩) (acc.length + 1) cap8)).heap.size := by
  have hsA : (W6.alloc (Obj.cells #[.string name, u] 44)).heap.size = W6.heap.size + 1 := by simp
  have hocn : ∀ b, (Value.slice a1 acc.length cap1).ownBlock = some b → Wc.heap.size + 1 ≤ b := fun b hb => (own_lt2 HSB.row hb).1
  have hws6 : Wc.heap.size < W6.heap.size := Nat.lt_of_lt_of_le hws hb6.size
  have hblk : w7.heap[Wc.heap.size]? = W6.heap[Wc.heap.size]? := (hgrow.block Wc.heap.size (by rw [hsA]; omega) (fun e => by have := hocn _ e.symm; omega)).trans (Deep.blk_alloc_lt _ _ _ hws6)
  have hc7 : w7.cell? ⟨Wc.heap.size, 0, none⟩ = some (.slice a1 acc.length cap1) := by rw [cellSame hblk]; exact hoc
  have hf7 : w7.frozen? ⟨Wc.heap.size, 0, none⟩ = false := by rw [frozenSame hblk]; exact hof
  have hs7 := hgrow.size
  rw [hsA] at hs7
  have hs6 := hb6.size
  have hBA : Below WR.heap.size WR (W6.alloc (Obj.cells #[.string name, u] 44)) := hb6.alloc hb6.size _
  have hOA := OAt.kept keptO_field hO3 (w' := W6.alloc (Obj.cells #[.string name, u] 44)) (by rw [hsA]; omega) (fun c hc => Deep.blk_alloc_lt _ _ _ (OAt.lt ltO_field hO3 c hc))
  have hPU := SegBuf.push (x := ⟨name, gs⟩) HSB (by omega) hBA hn hOA hfr3 hnd3 rfl hown hgrow (by
    rw [hsA]
    rcases hat with h | h
    · exact .inl (by rw [h]; rfl)
    · exact .inr (by rw [h]; rfl))
  have hbel7 : Below Wc.heap.size Wc w7 := (hbr6.alloc hbr6.size (Obj.cells #[.string name, u] 44)).grown hgrow (by rw [hsA]; omega) (fun b hb' => by have := hocn b hb'; omega)
  exact ⟨hc7, hf7, _, _, SegBuf.above hPU (by rw [Deep.nblk_setCell]; exact Nat.le_refl _) (fun b hb' => Deep.blk_setCell_other _ _ _ _ (by simp; omega)), World.cell?_setCell_same _ _ _ hc7, by rw [World.frozen?_setCell]; exact hf7, hbel7.setCell (by simp) _, by rw [Deep.nblk_setCell]; omega⟩

set_option maxRecDepth 100000 in
set_option maxHeartbeats 8000000 in
theorem parse_good (s : ByteArray) (w : World) (h40 : s.size ≤ 40000) (hby : bytesB s = true) (hh : headB s = true) (hm : Mx w) (hc : codeB s = 0) :
    Calls Tryd.prog 9 #[.string s] w (ParsePost w (parseL s)) := by
  obtain ⟨h8, _, _, _⟩ := head_parts hh
  have h3 : (3 : Int) ≤ (s.size : Int) := by omega
  have h38 : (8 : Int) ≤ (s.size : Int) := by omega
  have h5 : (s.extract 3 8).size = 5 := by rw [ByteArray.size_extract]; omega
  have HX : Hid (parseL s = segsGo (s.extract 3 8) h5 0 (piecesL s.data.toList)) := by
    unfold parseL
    rw [if_neg (by omega), if_neg (by rw [hby]; simp), dif_pos hh]; trivial
  have HHP := hide (fun h0 => head_P hh h5 h0)
  have HPP := hide (pieces_plain hby)
  have hcz : ((codeB s : Int) != 0) = false := by rw [hc]; rfl
  clear hby hh hc
  have HB0 : Hid (Below w.heap.size w (w.alloc (Obj.cells #[.slice none 0 0] 25))) := (Below.refl w.heap.size w).alloc (Nat.le_refl _) _
  have HM0 := hide (hm.kept HB0.out)
  have hmp := hm.pos
  go_enter Tryd.func9, Tryd.ntmps9
  go_wp2_with fail
  refine (textCode_any s _ (by omega) HM0.out).mono ?_
  rintro e W1 ⟨rfl, hb1⟩
  have hb2 : Below (w.heap.size + 1) (w.alloc (Obj.cells #[.slice none 0 0] 25)) W1 := by simpa using hb1
  have HM1 := hide (HM0.out.kept hb1)
  go_wp2_with fail
  refine (implCut_any s 13 _ (by omega) HM1.out).mono ?_
  rintro e Wb ⟨u, rfl, hu, hb3⟩
  have hpos := cutL_pos 13 s.data.toList
  obtain ⟨g, cap, rfl, hg, hgl, hcap, hcm, hcell⟩ := pieces_form hu hpos
  have HC := hide hcell
  have HBW : Hid (Below (w.heap.size + 1) (w.alloc (Obj.cells #[.slice none 0 0] 25)) Wb) := hb2.trans (hb3.mono (by have := hb2.size; simp at this; omega))
  have HMB := hide (HM1.out.kept hb3)
  have hlen : (cutL 13 s.data.toList).length ≤ 40001 := by have := cutL_len 13 s.data.toList; simp at this; omega
  have HL := hide hlen
  have hn1 : (((cutL 13 s.data.toList).length : Int) - 1).toNat = (cutL 13 s.data.toList).length - 1 := by omega
  have hn2 : (0 : Int) ≤ ((cutL 13 s.data.toList).length : Int) - 1 := by omega
  have hlast := (HC.out ((cutL 13 s.data.toList).length - 1) (by omega)).1
  have hls := cutL_sz 13 s.data.toList _ (List.getElem_mem (show (cutL 13 s.data.toList).length - 1 < (cutL 13 s.data.toList).length by omega))
  have hsl : s.data.toList.length = s.size := by simp
  clear hu hcell hb1 hb2 hb3
  go_upto_if 28 with fail
  go_cut [6] (fun v wx => v = .slice (some ⟨g, 0, none⟩) (piecesL s.data.toList).length cap ∧ wx = Wb)
  case first =>
    cases he : ((cutL 13 s.data.toList)[(cutL 13 s.data.toList).length - 1]'(by omega)).isEmpty
    · have hne0 : ¬ (cutL 13 s.data.toList)[(cutL 13 s.data.toList).length - 1]'(by omega) = [] := fun h => by rw [h] at he; cases he
      have hne : (txt ((cutL 13 s.data.toList)[(cutL 13 s.data.toList).length - 1]'(by omega))).toList.isEmpty = false := by rw [txt_toList]; exact he
      have hne2 : ¬ (txt ((cutL 13 s.data.toList)[(cutL 13 s.data.toList).length - 1]'(by omega))).toList = [] := by rw [txt_toList]; exact hne0
      have HP := hide (piecesL_no s.data.toList hne0)
      clear he hne0
      go_wp2_with fail
      all_goals first
        | (rename_i h; exact absurd (h.symm.trans hne) (by decide))
        | (go_meet
           case rel => exact ⟨by rw [HP.out], rfl⟩)
    · have hne0 : (cutL 13 s.data.toList)[(cutL 13 s.data.toList).length - 1]'(by omega) = [] := List.isEmpty_iff.1 he
      have hne : (txt ((cutL 13 s.data.toList)[(cutL 13 s.data.toList).length - 1]'(by omega))).toList.isEmpty = true := by rw [txt_toList]; exact he
      have hne2 : (txt ((cutL 13 s.data.toList)[(cutL 13 s.data.toList).length - 1]'(by omega))).toList = [] := by rw [txt_toList]; exact hne0
      have HP := hide (piecesL_yes s.data.toList hne0)
      clear he hne0
      have hc2 : ¬ (cap : Int) < ((cutL 13 s.data.toList).length : Int) - 1 := by omega
      go_wp2_with fail
      all_goals first
        | (rename_i h; exact absurd (h.symm.trans hne) (by decide))
        | (go_meet
           case rel => exact ⟨by rw [HP.out, List.length_dropLast], rfl⟩)
  case rest =>
    obtain ⟨rfl, rfl⟩ := hcut
    obtain ⟨Wc, rfl⟩ : ∃ x, x = wc := ⟨_, rfl⟩
    have HCP : Hid (∀ i (h : i < (piecesL s.data.toList).length), Wc.cell? ⟨g, i, none⟩ = some (.string (txt (piecesL s.data.toList)[i])) ∧ ((piecesL s.data.toList)[i]).length ≤ 40000) := fun i h => by
      obtain ⟨h2, e⟩ := piecesL_at s.data.toList i h
      have h3 := cutL_sz 13 s.data.toList _ (List.getElem_mem h2)
      rw [e]
      exact ⟨(HC.out i h2).1, by omega⟩
    have hpl : (piecesL s.data.toList).length ≤ 40001 := by have := piecesL_le s.data.toList; have := HL.out; omega
    generalize piecesL s.data.toList = ps at *
    clear hlast hls hn1 hn2 hcap hcm HC HL
    generalize hdd : s.extract 3 8 = d at *
    clear hdd
    have hwc : w.heap.size < Wc.heap.size := by have := HBW.out.size; simp at this; omega
    have HBOX : Hid (∀ wX, Below Wc.heap.size Wc wX → wX.cell? ⟨w.heap.size, 0, none⟩ = some (.slice none 0 0) ∧ wX.frozen? ⟨w.heap.size, 0, none⟩ = false ∧ w.heap.size < wX.heap.size ∧ Below w.heap.size w wX ∧ Mx wX) := fun wX h => by
      have hs0 := HBW.out.size
      simp at hs0
      have hb2 : Below (w.heap.size + 1) (w.alloc (Obj.cells #[.slice none 0 0] 25)) wX := HBW.out.trans (h.mono (by omega))
      refine ⟨?_, ?_, by have := h.size; omega, HB0.out.trans (hb2.mono (by omega)), HMB.out.kept h⟩
      · rw [hb2.cell (p := ⟨w.heap.size, 0, none⟩) (by simp)]; simp
      · rw [hb2.frozen (p := ⟨w.heap.size, 0, none⟩) (by simp)]; simp
    go_wp2_with fail
    go_loopg [36] ps.length (fun n i wr => ∃ (k : Nat) (acc : List Seg) (us : List Value) (bss : List (List Nat)) (a1 : Option Addr) (cap1 : Nat), k ≤ ps.length ∧ n = ps.length - k ∧ i = .int .i64 k ∧ acc.length = k ∧
      wr.cell? ⟨Wc.heap.size, 0, none⟩ = some (.slice a1 acc.length cap1) ∧ wr.frozen? ⟨Wc.heap.size, 0, none⟩ = false ∧ SegBuf (Wc.heap.size + 1) wr (.slice a1 acc.length cap1) acc us bss ∧ Below Wc.heap.size Wc wr ∧ Wc.heap.size < wr.heap.size ∧
      segsGo d h5 0 ps = (segsGo d h5 k (ps.drop k)).map (acc ++ ·))
    case atStart => exact ⟨0, [], [], [], none, 0, Nat.zero_le _, by simp, rfl, rfl, by simp, by simp, SegBuf.nil _ _, (Below.refl _ _).alloc (Nat.le_refl _) _, by simp, segs_start d h5 ps⟩
    case round =>
      obtain ⟨k, acc, us, bss, a1, cap1, hk, rfl, rfl, hacc, hoc, hof, hSB, hbr, hws, hE⟩ := hrel
      obtain ⟨WR, rfl⟩ : ∃ x, x = wr := ⟨_, rfl⟩
      have HE := hide hE
      have HAC := hide hacc
      have HSB := hide hSB
      have HBR := hide hbr
      have HOC := hide (And.intro hoc hof)
      obtain ⟨hq1, hq2, hq3, hq4, hMR⟩ := HBOX.out _ hbr
      have hal : acc.length ≤ 40001 := by omega
      clear hE hSB hacc
      by_cases hlt : k < ps.length
      · have hgc : g < Wc.heap.size := hgl
        have hpc : WR.cell? ⟨g, k, none⟩ = some (.string (txt ps[k])) := by rw [hbr.cell (p := ⟨g, k, none⟩) hgc]; exact (HCP.out k hlt).1
        have hki : (k : Int) < (ps.length : Int) := by omega
        go_wp2_with fail
        refine (parseSegment_any ps[k] k d _ h5 (HCP.out k hlt).2 (HPP.out k hlt) (by omega) (fun hk0 => by subst hk0; exact HHP.out hlt) hMR).mono ?_
        rintro e W5 ⟨nm, u5, c5, rfl, herr, hok, ⟨a5, n5, cp5, rfl⟩, hb5⟩
        have hs5 := hb5.size
        have HBR5 := hide (HBR.out.trans (hb5.mono HBR.out.size))
        have HB5 := hide hb5
        clear hq1 hq2 hq3 hq4 hMR hpc
        obtain ⟨hq1, hq2, hq3, hq4, hM5⟩ := HBOX.out _ HBR5.out
        clear hM5
        cases hsg : segL d h5 k ps[k] with
        | error n =>
          have HXX : Hid (parseL s = .error n) := by rw [HX.out]; exact segs_fail hlt HE.out hsg
          have hcn := herr n hsg
          have hnz := segL_code hsg
          subst hcn
          clear herr hok hsg hb5
          have HBF : Hid (∀ v o, Below w.heap.size w ((W5.setCell ⟨w.heap.size, 0, none⟩ v).alloc o)) := fun v o => (hq4.setCell (p := ⟨w.heap.size, 0, none⟩) (by simp) v).alloc (by rw [Deep.nblk_setCell]; omega) o
          go_wp2_with fail
          exact bodyPost_ret (v := .tuple #[.agg #[.slice none 0 0], .int .i64 (n : Int)]) (by simp [results, Tryd.results9, go_sem, hq1, hq2, hq3]) rfl (post_err HXX.out rfl (HBF.out _ _))
        | ok x =>
          obtain ⟨hc0, hnm, bs5, hO5, hnd5, hfr5⟩ := hok x hsg
          subst hc0 hnm
          clear herr hok hb5
          obtain ⟨i3, hi3, hw0, hw1, hw2⟩ := info_facts info_Seg2
          have hns : x.name.size ≤ 9223372036854775807 := by
            have h1 := segL_name hsg
            have h2 := (HCP.out k hlt).2
            omega
          have HSG := hide hsg
          clear hsg hoc hof
          have hws5 : Wc.heap.size < W5.heap.size := Nat.lt_of_lt_of_le hws hs5
          have hoc5 : W5.cell? ⟨Wc.heap.size, 0, none⟩ = some (.slice a1 acc.length cap1) := by rw [HB5.out.cell (p := ⟨Wc.heap.size, 0, none⟩) hws]; exact HOC.out.1
          have hof5 : W5.frozen? ⟨Wc.heap.size, 0, none⟩ = false := by rw [HB5.out.frozen (p := ⟨Wc.heap.size, 0, none⟩) hws]; exact HOC.out.2
          have hbA : Below W5.heap.size W5 (W5.alloc (Obj.cells #[.string x.name, .slice a5 n5 cp5] 44)) := (Below.refl _ _).alloc (Nat.le_refl _) _
          have hs6 : (W5.alloc (Obj.cells #[.string x.name, .slice a5 n5 cp5] 44)).heap.size = W5.heap.size + 1 := by simp
          have HBS6 := hide (bjoin hbA HB5.out)
          have HBR6 := hide (bjoin hbA HBR5.out)
          have hoc6 : (W5.alloc (Obj.cells #[.string x.name, .slice a5 n5 cp5] 44)).cell? ⟨Wc.heap.size, 0, none⟩ = some (.slice a1 acc.length cap1) := by rw [hbA.cell (p := ⟨Wc.heap.size, 0, none⟩) hws5]; exact hoc5
          have hof6 : (W5.alloc (Obj.cells #[.string x.name, .slice a5 n5 cp5] 44)).frozen? ⟨Wc.heap.size, 0, none⟩ = false := by rw [hbA.frozen (p := ⟨Wc.heap.size, 0, none⟩) hws5]; exact hof5
          have hO6 := OAt.kept keptO_field hO5 hbA.size (fun e he => hbA.block e (OAt.lt ltO_field hO5 e he))
          have HBA := hide (HBS6.out.alloc HBS6.out.size (Obj.cells #[.string x.name, .slice a5 n5 cp5] 44))
          have HROW := hide (own_below2 HSB.out.row HBA.out)
          have HAPP := hide (fun (g7 cap8 : Nat) (w7 : World) => seg_put2 (name := x.name) (gs := x.fields) (g7 := g7) (cap8 := cap8) (w7 := w7) HSB.out hws HBS6.out HBR6.out hoc6 hof6 hns hO6 hnd5 hfr5)
          clear hO5 hO6 hnd5 hfr5 hbA hoc6 hof6
          go_wp2_with (first
            | (at_builtin; refine wpList_append_lies _ rfl _ _ 23 rfl (Wc.heap.size + 1) 44 i3 (.agg #[.string ByteArray.empty, .slice none 0 0]) 2 40 Tryd.underlying23 hi3 hw0 hw1 hw2 rfl (by decide) _ _ _ rfl HROW.out ⟨W5.heap.size + 1, 0, none⟩ 1 1 [.string x.name, .slice a5 n5 cp5] rfl rfl ?c1 ?c2 ?c3 ?c4 ?c5 ?c6 (W5.heap.size + 1 + 1) ?c7 ?_)
            | fail)
          case c1 =>
            have := new_cells2 (W5.alloc (Obj.cells #[.string x.name, .slice a5 n5 cp5] 44)) (.string x.name) (.slice a5 n5 cp5) 44
            rw [hs6] at this
            exact this
          case c2 => exact one_cells2 _ _ _ _
          case c3 => omega
          case c4 => unfold maxLen; omega
          case c5 => omega
          case c6 => simp; omega
          case c7 => simp
          intro g7 cap8 w7 hown' hgrow hat hlt7
          have HG7 := hide (HAPP.out g7 cap8 w7 hown' hgrow (by rw [hs6]; exact hat))
          have hc7 := HG7.out.1
          have hf7 := HG7.out.2.1
          clear hown' hgrow hat
          obtain ⟨us', bss', hS', hcc', hff', hbb', hss'⟩ := HG7.out.2.2
          have HREL := hide (And.intro hS' (And.intro hcc' (And.intro hff' (And.intro hbb' hss'))))
          clear hS' hcc' hff' hbb' hss'
          go_wp2_with fail
          go_roundg (ps.length - (k + 1))
          case measure => omega
          case rel =>
            exact ⟨k + 1, acc ++ [⟨x.name, x.fields⟩], us', bss', some ⟨g7, 0, none⟩, cap8, by omega, rfl, by go_num, by rw [List.length_append, List.length_singleton, HAC.out], by rw [List.length_append, List.length_singleton]; exact HREL.out.2.1, HREL.out.2.2.1, by rw [List.length_append, List.length_singleton]; exact HREL.out.1, HREL.out.2.2.2.1, HREL.out.2.2.2.2, segs_step hlt HE.out HSG.out⟩
      · have HXX : Hid (parseL s = .ok acc) := by rw [HX.out]; exact segs_done (by omega) HE.out
        have hki : ¬ (k : Int) < (ps.length : Int) := by omega
        obtain ⟨bs, hO, hnd, hfr⟩ := HSB.out.segs (by omega)
        have HFIN : Hid (∀ xs, parseL s = .ok xs → ∃ bs, OSegs (WR.setCell ⟨w.heap.size, 0, none⟩ (.slice a1 acc.length cap1)) (.slice a1 acc.length cap1) xs bs ∧ bs.Nodup ∧ ∀ b ∈ bs, w.heap.size ≤ b) := fun xs hx => by
          rw [HXX.out] at hx
          injection hx with hx
          subst hx
          exact ⟨bs, OAt.kept keptO_seg hO (by rw [Deep.nblk_setCell]; exact Nat.le_refl _) (fun c hc => Deep.blk_setCell_other _ _ _ _ (by have := hfr c hc; simp; omega)), hnd, fun b hb => by have := hfr b hb; omega⟩
        clear hO hnd hfr
        go_wp2_with fail
        exact bodyPost_ret (v := .tuple #[.agg #[.slice a1 acc.length cap1], .int .i64 0]) (by simp [results, Tryd.results9, go_sem, hq1, hq2, hq3]) rfl ⟨_, _, rfl, fun n hn => (by rw [HXX.out] at hn; cases hn), fun xs hx => ⟨rfl, HFIN.out xs hx⟩, hq4.setCell (by simp) _⟩
/-- the program's Parse -/
theorem parse_any (s : ByteArray) (w : World) (hs : s.size ≤ 1048576) (hm : Mx w) : Calls Tryd.prog 9 #[.string s] w (ParsePost w (parseL s)) := by
  by_cases hc : codeB s = 0
  · obtain ⟨h1, h2, h3⟩ := code_ok hc
    exact parse_good s w h1 h2 h3 hm hc
  · exact parse_code s w hs hm hc
end Go.Proofs.YtcphfhfockjljaaDoor.Msg
