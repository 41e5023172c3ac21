import Derived.Test.YtcphfhfockjljaaGreatDoorParseHead2withOutBox
import Derived.Deep.DeepCutAuto
import Derived.Deep.RegionLaw
import Derived.Deep.AppendLies
namespace Go.Proofs.YtcphfhfockjljaaGreatDoor.Msg
open Go.ChangeShapes Go.WideShapes Go.ChangeAt Go.RowKit
set_option linter.unusedVariables false
set_option linter.unusedSimpArgs false

/-- the head is in order -/
theorem head_parts {s : ByteArray} (h : headB s = true) : 8 ≤ s.size ∧ ((s.extract 0 3).toList == [77, 83, 72]) = true ∧ delimsB (s.extract 3 8) = true ∧ (s.size ≤ 8 ∨ ∃ h8 : 8 < s.size, s[8].toNat = 13 ∨ s[8].toNat = s[3].toNat) := by
  unfold headB at h
  simp only [Bool.and_eq_true, Bool.or_eq_true, decide_eq_true_eq] at h
  obtain ⟨h1, h2, h3, h4⟩ := h
  refine ⟨h1, h2, h3, ?_⟩
  by_cases h8 : s.size ≤ 8
  · exact .inl h8
  · right
    have h8' : 8 < s.size := by omega
    refine ⟨h8', ?_⟩
    have e8 : s.data.toList[8]? = some s[8] := by rw [List.getElem?_eq_getElem (by simpa using h8')]; rfl
    have e3 : s.data.toList[3]? = some s[3] := by rw [List.getElem?_eq_getElem (by simp; omega)]; rfl
    rcases h4 with h4 | h4
    · exact absurd h4 h8
    · rw [e8, e3] at h4
      rcases h4 with h4 | h4
      · left
        have := beq_iff_eq.1 h4
        injection this with this
        rw [this]; rfl
      · right
        have := beq_iff_eq.1 h4
        injection this with this
        rw [this]

set_option maxRecDepth 100000 in
set_option maxHeartbeats 8000000 in
theorem parseSpec_good (s : ByteArray) (w : World) (h40 : s.size ≤ 40000) (hby : bytesB s = true) (hh : headB s = true) :
    Calls Tryz.prog 12 #[.string s] w (ParsePost w (parseL s)) := by
  obtain ⟨h8, hm, hdl, hsep⟩ := head_parts hh
  have HB0 := hide (below_start w)
  have h0' : ((s.size : Int) == 0) = false := by rw [beq_eq_false_iff_ne]; omega
  have h8' : ¬ (s.size : Int) < 8 := by omega
  have h8d : decide ((s.size : Int) < 8) = false := decide_eq_false h8'
  have h3 : (3 : Int) ≤ (s.size : Int) := by omega
  have h33 : (3 : Int) < (s.size : Int) := by omega
  have h38 : (8 : Int) ≤ (s.size : Int) := by omega
  have h4 : ¬ (40000 : Int) < (s.size : Int) := by omega
  have hm' : ((s.extract 0 3).toList != [77, 83, 72]) = false := by unfold bne; rw [hm]; rfl
  have h5 : (s.extract 3 8).size = 5 := by rw [ByteArray.size_extract]; omega
  have HX : Hid (parseL s = segsGo (s.extract 3 8) h5 0 (piecesL s.data.toList)) := by
    unfold parseL
    rw [if_neg (by omega), if_neg (by rw [hby]; simp), dif_pos hh]; trivial
  have HBY := hide hby
  have HDL := hide hdl
  have HCALL : Hid (∀ w, Calls Tryz.prog 27 #[.string (s.extract 3 8)] w fun e w' => e = .returned (.bool true) ∧ w' = w) := fun w => by rw [← HDL.out]; exact delims_any (s.extract 3 8) w h5

  have HHD := hide hh
  clear hby hdl hh
  go_enter Tryz.func12, Tryz.ntmps12
  go_wp2_with fail
  refine (bytes_any s _ (by omega)).mono ?_
  rintro e w' ⟨rfl, rfl⟩
  rw [HBY.out]
  go_upto_region 6 with fail
  go_cut [58] (fun b wx => b = .bool false ∧ Below (w.heap.size + 2) ((w.alloc (Obj.cells #[.slice none 0 0] 25)).alloc (Obj.cells #[.slice none 0 0] 25)) wx)
  case first =>
    have HBR : Hid (Below (w.heap.size + 2) ((w.alloc (Obj.cells #[.slice none 0 0] 25)).alloc (Obj.cells #[.slice none 0 0] 25)) ((w.alloc (Obj.cells #[.slice none 0 0] 25)).alloc (Obj.cells #[.slice none 0 0] 25))) := Below.refl _ _
    by_cases h88 : (8 : Int) < (s.size : Int)
    · have h88n : 8 < s.size := by omega
      have hs2 : s[8].toNat = 13 ∨ s[8].toNat = s[3].toNat := by
        rcases hsep with h | ⟨_, h⟩
        · omega
        · exact h
      clear hsep
      by_cases h13 : s[8].toNat = 13
      · have g1 : ((s[8].toNat : Int) != 13) = false := by simp; omega
        clear hs2 h13
        go_quiet (first | (go_at_call 27; refine Calls.quiet_of_same (HCALL.out _)))
        go_wp2_with fail
        go_meet
        case rel => exact ⟨rfl, below_drewN HBR.out _⟩
      · have g1 : ((s[8].toNat : Int) != 13) = true := by rw [bne_iff_ne]; omega
        have g2 : ((s[8].toNat : Int) != (s[3].toNat : Int)) = false := by
          rcases hs2 with h | h
          · exact absurd h h13
          · rw [h]; simp
        clear hs2 h13
        go_quiet (first | (go_at_call 27; refine Calls.quiet_of_same (HCALL.out _)))
        go_wp2_with fail
        go_meet
        case rel => exact ⟨rfl, below_drewN HBR.out _⟩
    · clear hsep
      go_quiet (first | (go_at_call 27; refine Calls.quiet_of_same (HCALL.out _)))
      go_wp2_with fail
      go_meet
      case rel => exact ⟨rfl, below_drewN HBR.out _⟩
  case rest =>
    obtain ⟨rfl, hbx⟩ := hcut
    obtain ⟨Wa, rfl⟩ : ∃ x, x = wc := ⟨_, rfl⟩
    have hsz40 : s.size ≤ 1048576 := by omega
    go_wp2_with fail
    refine (cut_any s 13 _ hsz40).mono ?_
    rintro e Wb ⟨u, rfl, hu, hb1⟩
    have hpos := cutL_pos 13 s.data.toList
    obtain ⟨g, cap, rfl, hg, hgl, hcap, hcm, hcell⟩ := pieces_form hu hpos
    have HC := hide hcell
    have HBW : Hid (Below (w.heap.size + 2) ((w.alloc (Obj.cells #[.slice none 0 0] 25)).alloc (Obj.cells #[.slice none 0 0] 25)) Wb) := hbx.trans (hb1.mono (by have := hbx.size; simp at this; omega))
    have hlen : (cutL 13 s.data.toList).length ≤ 40001 := by have := cutL_len 13 s.data.toList; simp at this; omega
    have HL := hide hlen
    have hn1 : (((cutL 13 s.data.toList).length : Int) - 1).toNat = (cutL 13 s.data.toList).length - 1 := by omega
    have hn2 : (0 : Int) ≤ ((cutL 13 s.data.toList).length : Int) - 1 := by omega
    have hlast := (HC.out ((cutL 13 s.data.toList).length - 1) (by omega)).1
    have hls := cutL_sz 13 s.data.toList _ (List.getElem_mem (show (cutL 13 s.data.toList).length - 1 < (cutL 13 s.data.toList).length by omega))
    have hsl : s.data.toList.length = s.size := by simp
    clear hu hcell hb1 hbx
    go_upto_if 71 with fail
    go_cut [6] (fun v wx => v = .slice (some ⟨g, 0, none⟩) (piecesL s.data.toList).length cap ∧ wx = Wb)
    case first =>
      cases he : ((cutL 13 s.data.toList)[(cutL 13 s.data.toList).length - 1]'(by omega)).isEmpty
      · have hne : (((txt ((cutL 13 s.data.toList)[(cutL 13 s.data.toList).length - 1]'(by omega))).size : Int) == 0) = false := by
          rw [txt_size, beq_eq_false_iff_ne]
          intro h0
          rw [List.length_eq_zero_iff.1 (by omega : ((cutL 13 s.data.toList)[(cutL 13 s.data.toList).length - 1]'(by omega)).length = 0)] at he
          cases he
        have HP := hide (piecesL_no s.data.toList (fun h => by rw [h] at he; cases he))
        clear he
        go_wp2_with fail
        go_meet
        case rel => exact ⟨by rw [HP.out], rfl⟩
      · have hne : (((txt ((cutL 13 s.data.toList)[(cutL 13 s.data.toList).length - 1]'(by omega))).size : Int) == 0) = true := by
          rw [txt_size, List.isEmpty_iff.1 he]; rfl
        have HP := hide (piecesL_yes s.data.toList (List.isEmpty_iff.1 he))
        clear he
        have hc2 : ¬ (cap : Int) < ((cutL 13 s.data.toList).length : Int) - 1 := by omega
        go_wp2_with fail
        go_meet
        case rel => exact ⟨by rw [HP.out, List.length_dropLast], rfl⟩
    case rest =>
      obtain ⟨rfl, rfl⟩ := hcut
      obtain ⟨Wc, rfl⟩ : ∃ x, x = wc := ⟨_, rfl⟩
      have HCP : Hid (∀ i (h : i < (piecesL s.data.toList).length), Wc.cell? ⟨g, i, none⟩ = some (.string (txt (piecesL s.data.toList)[i])) ∧ ((piecesL s.data.toList)[i]).length ≤ 40000) := fun i h => by
        obtain ⟨h2, e⟩ := piecesL_at s.data.toList i h
        have h3 := cutL_sz 13 s.data.toList _ (List.getElem_mem h2)
        rw [e]
        exact ⟨(HC.out i h2).1, by omega⟩
      have HF8 : Hid (∀ h : 0 < (piecesL s.data.toList).length, 8 ≤ ((piecesL s.data.toList)[0]).length) := fun h => piece_first HHD.out h
      have hpl : (piecesL s.data.toList).length ≤ 40001 := by have := piecesL_le s.data.toList; have := HL.out; omega
      generalize piecesL s.data.toList = ps at *
      clear hlast hls hn1 hn2 hcap hcm HC HL
      generalize hdd : s.extract 3 8 = d at *
      clear hdd hm hm'
      have HBOX : Hid (∀ wX, Below Wc.heap.size Wc wX → wX.cell? ⟨w.heap.size, 0, none⟩ = some (.slice none 0 0) ∧ wX.frozen? ⟨w.heap.size, 0, none⟩ = false ∧ wX.cell? ⟨w.heap.size + 1, 0, none⟩ = some (.slice none 0 0) ∧ w.heap.size < wX.heap.size ∧ Below w.heap.size w wX) := fun wX h => by
        have hs0 := HBW.out.size
        simp at hs0
        have hb2 : Below (w.heap.size + 2) ((w.alloc (Obj.cells #[.slice none 0 0] 25)).alloc (Obj.cells #[.slice none 0 0] 25)) wX := HBW.out.trans (h.mono (by omega))
        refine ⟨?_, ?_, ?_, by have := h.size; omega, HB0.out.trans (hb2.mono (by omega))⟩
        · rw [hb2.cell (p := ⟨w.heap.size, 0, none⟩) (by simp)]; simp
        · rw [hb2.frozen (p := ⟨w.heap.size, 0, none⟩) (by simp)]; simp
        · rw [hb2.cell (p := ⟨w.heap.size + 1, 0, none⟩) (by simp)]; simp
      go_wp2_with fail
      go_loopg [8] ps.length (fun n i wr => ∃ (k : Nat) (acc : List Seg) (us : List Value) (bss : List (List Nat)) (a1 : Option Addr) (cap1 : Nat), k ≤ ps.length ∧ n = ps.length - k ∧ i = .int .i64 k ∧ acc.length = k ∧
        wr.cell? ⟨Wc.heap.size, 0, none⟩ = some (.slice a1 acc.length cap1) ∧ wr.frozen? ⟨Wc.heap.size, 0, none⟩ = false ∧ SegBuf (Wc.heap.size + 1) wr (.slice a1 acc.length cap1) acc us bss ∧ Below Wc.heap.size Wc wr ∧ Wc.heap.size < wr.heap.size ∧
        segsGo d h5 0 ps = (segsGo d h5 k (ps.drop k)).map (acc ++ ·))
      case atStart => exact ⟨0, [], [], [], none, 0, Nat.zero_le _, by simp, rfl, rfl, by simp, by simp, SegBuf.nil _ _, (Below.refl _ _).alloc (Nat.le_refl _) _, by simp, segs_start d h5 ps⟩
      case round =>
        obtain ⟨k, acc, us, bss, a1, cap1, hk, rfl, rfl, hacc, hoc, hof, hSB, hbr, hws, hE⟩ := hrel
        obtain ⟨W1, rfl⟩ : ∃ x, x = wr := ⟨_, rfl⟩
        have HE := hide hE
        have HAC := hide hacc
        have HSB := hide hSB
        have HBR := hide hbr
        have HOC := hide (And.intro hoc hof)
        obtain ⟨hq1, hq2, hq3, hq4, hq5⟩ := HBOX.out _ hbr
        have hal : acc.length ≤ 40001 := by omega
        clear hE hSB hacc hoc hof
        by_cases hlt : k < ps.length
        · have hgc : g < Wc.heap.size := hgl
          have hpc : W1.cell? ⟨g, k, none⟩ = some (.string (txt ps[k])) := by rw [hbr.cell (p := ⟨g, k, none⟩) hgc]; exact (HCP.out k hlt).1
          have hpl2 : (txt ps[k]).size ≤ 40000 := by rw [txt_size]; exact (HCP.out k hlt).2
          have HTS := hide (txt_size ps[k])
          have hki : (k : Int) < (ps.length : Int) := by omega
          have HTN := hide (txt_name ps[k])
          have hns : ((txt ps[k]).extract 0 3).size ≤ 9223372036854775807 := by rw [ByteArray.size_extract]; omega
          obtain ⟨B4, hB4⟩ : ∃ b : Bool, (b = true ↔ (ps[k].length < 3 ∨ nameB (txt (ps[k].take 3)) = false ∨ (0 < k ∧ ps[k].take 3 = [77, 83, 72]))) := ⟨decide _, decide_eq_true_iff⟩
          have HB4 := hide hB4
          have HTL : Hid (((txt ps[k]).extract 0 3).toList = ps[k].take 3) := by rw [HTN.out, txt_toList]; trivial
          clear hB4
          go_upto_region 17 with fail
          go_cut [105] (fun b wx => b = .bool B4 ∧ wx = W1)
          case first =>
            by_cases hp3 : ((txt ps[k]).size : Int) < 3
            · have HT : Hid (B4 = true) := HB4.out.2 (.inl (by have := HTS.out; omega))
              go_wp2_with fail
              go_meet
              case rel => exact ⟨by rw [HT.out], rfl⟩
            · have hp3' : (3 : Int) ≤ ((txt ps[k]).size : Int) := by omega
              cases hnb : nameB ((txt ps[k]).extract 0 3)
              · have HT : Hid (B4 = true) := HB4.out.2 (.inr (.inl (by rw [← HTN.out]; exact hnb)))
                have HNB := hide hnb
                clear hnb
                go_wp2_with fail
                refine (segName_any _ _ hns).mono ?_
                rintro e w2 ⟨rfl, rfl⟩
                rw [HNB.out]
                go_wp2_with fail
                go_meet
                case rel => exact ⟨by rw [HT.out], rfl⟩
              · have HNB := hide hnb
                clear hnb
                by_cases hk0 : (0 : Int) < (k : Int)
                · cases hmm : (((txt ps[k]).extract 0 3).toList == [77, 83, 72])
                  · have HT : Hid (B4 = false) := by
                      rw [Hid, ← Bool.not_eq_true]
                      intro h
                      rcases HB4.out.1 h with h | h | ⟨_, h⟩
                      · have := HTS.out; omega
                      · rw [← HTN.out, HNB.out] at h; cases h
                      · rw [HTL.out, h] at hmm; simp at hmm
                    go_wp2_with fail
                    refine (segName_any _ _ hns).mono ?_
                    rintro e w2 ⟨rfl, rfl⟩
                    rw [HNB.out]
                    go_wp2_with fail
                    go_meet
                    case rel => exact ⟨by rw [HT.out], rfl⟩
                  · have HT : Hid (B4 = true) := HB4.out.2 (.inr (.inr ⟨by omega, by rw [← HTL.out]; exact beq_iff_eq.1 hmm⟩))
                    go_wp2_with fail
                    refine (segName_any _ _ hns).mono ?_
                    rintro e w2 ⟨rfl, rfl⟩
                    rw [HNB.out]
                    go_wp2_with fail
                    go_meet
                    case rel => exact ⟨by rw [HT.out], rfl⟩
                · have HT : Hid (B4 = false) := by
                    rw [Hid, ← Bool.not_eq_true]
                    intro h
                    rcases HB4.out.1 h with h | h | ⟨h, _⟩
                    · have := HTS.out; omega
                    · rw [← HTN.out, HNB.out] at h; cases h
                    · omega
                  go_wp2_with fail
                  refine (segName_any _ _ hns).mono ?_
                  rintro e w2 ⟨rfl, rfl⟩
                  rw [HNB.out]
                  go_wp2_with fail
                  go_meet
                  case rel => exact ⟨by rw [HT.out], rfl⟩
          case rest =>
            obtain ⟨rfl, rfl⟩ := hcut
            obtain ⟨W2, rfl⟩ : ∃ x, x = wc := ⟨_, rfl⟩
            cases B4
            · have HNO : Hid (¬ (ps[k].length < 3 ∨ nameB (txt (ps[k].take 3)) = false ∨ (0 < k ∧ ps[k].take 3 = [77, 83, 72]))) := fun h => by have := HB4.out.2 h; cases this
              clear HB4
              have hp3' : (3 : Int) ≤ ((txt ps[k]).size : Int) := by
                have h1 := HTS.out
                have h2 := HNO.out
                omega
              go_upto_if 110 with fail
              go_cut [10] (fun v wx => v = .string (txt (restL k ps[k])) ∧ wx = W2)
              case first =>
                by_cases hk0 : k = 0
                · have hk' : ((k : Int) == 0) = true := by rw [beq_iff_eq]; omega
                  have h8p : (8 : Int) ≤ ((txt ps[k]).size : Int) := by
                    have h1 := HF8.out (by omega)
                    have e : ps[k] = ps[0]'(by omega) := by simp only [hk0]
                    rw [txt_size, e]
                    omega
                  have HRL : Hid ((txt ps[k]).extract 8 (txt ps[k]).size = txt (restL k ps[k])) := by
                    rw [txt_from]; unfold restL; rw [if_pos hk0]; trivial
                  clear hk0
                  go_wp2_with fail
                  go_meet
                  case rel => exact ⟨by rw [HRL.out], rfl⟩
                · have hk' : ((k : Int) == 0) = false := by rw [beq_eq_false_iff_ne]; omega
                  have HRL : Hid ((txt ps[k]).extract 3 (txt ps[k]).size = txt (restL k ps[k])) := by
                    rw [txt_from]; unfold restL; rw [if_neg hk0]; trivial
                  clear hk0
                  go_wp2_with fail
                  go_meet
                  case rel => exact ⟨by rw [HRL.out], rfl⟩
              case rest =>
                obtain ⟨rfl, rfl⟩ := hcut
                obtain ⟨W3, rfl⟩ : ∃ x, x = wc := ⟨_, rfl⟩
                have hrz : (txt (restL k ps[k])).size ≤ 40000 := by
                  have h1 := restL_len k ps[k]
                  have h2 := (HCP.out k hlt).2
                  rw [txt_size]; omega
                have hd0 : (0 : Int) < (d.size : Int) := by omega
                have HH0 := hide (txt_at0 (restL k ps[k]))
                obtain ⟨bad, hbad⟩ : ∃ b, (restL k ps[k]).head?.any (fun c => c != d[0]) = b := ⟨_, rfl⟩
                have HBAD := hide hbad
                clear hbad
                go_upto_region 22 with fail
                go_cut [122] (fun b wx => b = .bool bad ∧ Below W3.heap.size W3 wx)
                case first =>
                  have HBQ := hide (Below.refl W3.heap.size W3)
                  by_cases hr0 : (0 : Int) < ((txt (restL k ps[k])).size : Int)
                  · have hr0n : 0 < (txt (restL k ps[k])).size := by omega
                    have HV : Hid (((txt (restL k ps[k]))[0] != d[0]) = bad) := by
                      rw [← HBAD.out, HH0.out hr0n]; rfl
                    by_cases he : (txt (restL k ps[k]))[0].toNat = d[0].toNat
                    · have g2 : (((txt (restL k ps[k]))[0].toNat : Int) != (d[0].toNat : Int)) = false := by rw [he]; simp
                      have HBF : Hid (bad = false) := by rw [← HV.out, UInt8.toNat_inj.1 he]; simp [Hid]
                      clear he
                      go_quiet (fail)
                      go_wp2_with fail
                      go_meet
                      case rel => exact ⟨by rw [HBF.out], below_drewN HBQ.out _⟩
                    · have g2 : (((txt (restL k ps[k]))[0].toNat : Int) != (d[0].toNat : Int)) = true := by rw [bne_iff_ne]; omega
                      have HBF : Hid (bad = true) := by rw [← HV.out]; show _ = true; rw [bne_iff_ne]; exact fun h => he (by rw [h])
                      clear he
                      go_quiet (fail)
                      go_wp2_with fail
                      go_meet
                      case rel => exact ⟨by rw [HBF.out], below_drewN HBQ.out _⟩
                  · have HBF : Hid (bad = false) := by
                      have hl0 : restL k ps[k] = [] := List.length_eq_zero_iff.1 (by have := txt_size (restL k ps[k]); omega)
                      rw [← HBAD.out, hl0]; rfl
                    have hr0d : decide ((0 : Int) < ((txt (restL k ps[k])).size : Int)) = false := decide_eq_false hr0
                    have hr0n : ¬ 0 < (txt (restL k ps[k])).size := by omega
                    have hr0m : decide (0 < (txt (restL k ps[k])).size) = false := decide_eq_false hr0n
                    go_quiet (fail)
                    go_wp2_with fail
                    go_meet
                    case rel => exact ⟨by rw [HBF.out], below_drewN HBQ.out _⟩
                case rest =>
                  clear hq1 hq2 hq3 hq4 hq5 hpc
                  obtain ⟨rfl, hb22⟩ := hcut
                  obtain ⟨W4, rfl⟩ : ∃ x, x = wc := ⟨_, rfl⟩
                  have HBR4 := hide (HBR.out.trans (hb22.mono HBR.out.size))
                  obtain ⟨hq1, hq2, hq3, hq4, hq5⟩ := HBOX.out _ HBR4.out
                  cases bad
                  · go_wp2_with fail
                    refine (fields_any (txt (restL k ps[k])) d _ (by omega) (by omega)).mono ?_
                    rintro e W5 ⟨u2, rfl, bs2, hO2, hnd2, hfr2, hb2⟩
                    have hO : OFields W5 u2 (fieldsT d h5 (restL k ps[k])) bs2 := by have := hO2; rw [txt_data] at this; exact this
                    have hFA := OAt.toAt toAt_field hO hfr2
                    obtain ⟨a6, cap6, rfl, _⟩ := hFA.form
                    have HBR5 := hide (HBR4.out.trans (hb2.mono HBR4.out.size))
                    have HBS5 := hide (bjoin hb2 hb22)
                    clear hq1 hq2 hq3 hq4 hq5 hO2 hO hnd2 hfr2 hb2 hb22
                    obtain ⟨hq1, hq2, hq3, hq4, hq5⟩ := HBOX.out _ HBR5.out
                    by_cases h250 : (250 : Int) ≤ (k : Int)
                    · have HX5 := hide (seg_5 (d := d) (hd := h5) (i := k) (p := ps[k]) HNO.out HBAD.out (.inl (by omega)))
                      have HXX : Hid (parseL s = .error 5) := by rw [HX.out]; exact segs_fail hlt HE.out HX5.out
                      go_wp2_with fail
                      exact bodyPost_ret (v := .tuple #[.agg #[.slice none 0 0], .int .i64 5]) (by simp [results, Tryz.results12, go_sem, hq1, hq2, hq3, hq4]) rfl (post_err HXX.out rfl (hq5.setCell (by simp) _))
                    · cases hlg : longB (fieldsT d h5 (restL k ps[k]))
                      · have HLG := hide hlg
                        clear hlg
                        go_wp2_with fail
                        refine (tooLong_any (fieldsT d h5 (restL k ps[k])) _ _ hFA).mono ?_
                        rintro e w' ⟨rfl, rfl⟩
                        rw [HLG.out]
                        go_wp2_with fail
                        refine (unescape_any (fieldsT d h5 (restL k ps[k])) _ d _ h5 hFA HLG.out (fieldsT_sz d h5 (restL k ps[k]) (by rw [← txt_size]; omega))).mono ?_
                        rintro e W6 ⟨u3, rfl, hys, hb3⟩
                        have HBR6 := hide (HBR5.out.trans (hb3.mono HBR5.out.size))
                        have HBS6 := hide (bjoin hb3 HBS5.out)
                        have hs56 := hb3.size
                        have HS5 := hide HBS5.out.size
                        clear hq1 hq2 hq3 hq4 hq5 hb3 hFA
                        obtain ⟨hq1, hq2, hq3, hq4, hq5⟩ := HBOX.out _ HBR6.out
                        have HN5 : Hid (¬ (250 ≤ k ∨ longB (fieldsT d h5 (restL k ps[k])) = true)) := fun h => by
                          rcases h with h | h
                          · omega
                          · rw [HLG.out] at h; cases h
                        cases hun : allO (allO (allO (plainO d h5))) (fieldsT d h5 (restL k ps[k])) with
                        | none =>
                          have HX6 := hide (seg_6 (d := d) (hd := h5) (i := k) (p := ps[k]) HNO.out HBAD.out HN5.out hun)
                          clear hys hun
                          simp only [Option.isSome_none]
                          have HXX : Hid (parseL s = .error 6) := by rw [HX.out]; exact segs_fail hlt HE.out HX6.out
                          go_wp2_with fail
                          exact bodyPost_ret (v := .tuple #[.agg #[.slice none 0 0], .int .i64 6]) (by simp [results, Tryz.results12, go_sem, hq1, hq2, hq3, hq4]) rfl (post_err HXX.out rfl (hq5.setCell (by simp) _))
                        | some gs =>
                          have HOK := hide (seg_ok (d := d) (hd := h5) (i := k) (p := ps[k]) HNO.out HBAD.out HN5.out hun)
                          obtain ⟨bs3, hO3, hnd3, hfr3⟩ := hys gs hun
                          clear hys hun
                          simp only [Option.isSome_some]
                          obtain ⟨a7, cap7, rfl, _⟩ := (OAt.toAt toAt_field hO3 hfr3).form
                          obtain ⟨i3, hi3, hw0, hw1, hw2⟩ := info_facts info_Seg2
                          have hoc6 : W6.cell? ⟨Wc.heap.size, 0, none⟩ = some (.slice a1 acc.length cap1) := by rw [HBS6.out.cell (p := ⟨Wc.heap.size, 0, none⟩) hws]; exact HOC.out.1
                          have hof6 : W6.frozen? ⟨Wc.heap.size, 0, none⟩ = false := by rw [HBS6.out.frozen (p := ⟨Wc.heap.size, 0, none⟩) hws]; exact HOC.out.2
                          have HS36 := hide HBS6.out.size
                          have hws6 : Wc.heap.size < W6.heap.size := Nat.lt_of_lt_of_le hws HBS6.out.size
                          have HBA := hide ((HBS6.out.alloc HBS6.out.size (Obj.cells #[.string ((txt ps[k]).extract 0 3), .slice a7 gs.length cap7] 41)).drew)
                          have HROW := hide (own_below2 HSB.out.row HBA.out)
                          have HOCN := hide (show ∀ b, (Value.slice a1 acc.length cap1).ownBlock = some b → Wc.heap.size + 1 ≤ b from fun b hb => (own_lt2 HSB.out.row hb).1)
                          have HAPP := hide (fun (g7 cap8 : Nat) (w7 : World) => seg_put (name := (txt ps[k]).extract 0 3) (g7 := g7) (cap8 := cap8) (w7 := w7) HSB.out hws HBS6.out HBR6.out hoc6 hof6 hns hO3 hnd3 (fun b hb => by have := hfr3 b hb; have := HS5.out; omega))
                          go_wp2_with fail
                          go_region_law (refine step_append_lies _ rfl _ _ 23 rfl (Wc.heap.size + 1) 41 i3 (.agg #[.string ByteArray.empty, .slice none 0 0]) 2 40 Tryz.underlying23 hi3 hw0 hw1 hw2 rfl (by decide) _ _ _ (by first | rfl | simp [Act.eval, Act.put]) HROW.out ⟨W6.heap.size, 0, none⟩ 1 1 [.string ((txt ps[k]).extract 0 3), .slice a7 gs.length cap7] (by first | rfl | simp [Act.eval, Act.put]) rfl (new_cells2 W6 _ _ _) (one_cells2 _ _ _ _) (by omega) (by unfold maxLen; omega) (by omega) (by simp; omega) (W6.heap.size + 1) (by simp) ?_; intro g7 cap8 w7 hown' hgrow hat hlt7; have HG7 := hide (HAPP.out g7 cap8 w7 hown' hgrow (by first | exact hat | simpa using hat)); have hc7 := HG7.out.1; have hf7 := HG7.out.2.1; clear hown' hgrow hat)
                          · obtain ⟨us', bss', hS', hcc', hff', hbb', hss'⟩ := HG7.out.2.2
                            have HREL := hide (And.intro hS' (And.intro hcc' (And.intro hff' (And.intro hbb' hss'))))
                            clear hS' hcc' hff' hbb' hss'
                            go_wp2_with fail
                            go_roundg (ps.length - (k + 1))
                            case measure => omega
                            case rel =>
                              exact ⟨k + 1, acc ++ [⟨(txt ps[k]).extract 0 3, gs⟩], us', bss', some ⟨g7, 0, none⟩, cap8, by omega, rfl, by go_num, by rw [List.length_append, List.length_singleton, HAC.out], by rw [List.length_append, List.length_singleton]; exact HREL.out.2.1, HREL.out.2.2.1, by rw [List.length_append, List.length_singleton]; exact HREL.out.1, HREL.out.2.2.2.1, HREL.out.2.2.2.2, segs_step hlt HE.out (by rw [HTN.out]; exact HOK.out)⟩
                          · obtain ⟨us', bss', hS', hcc', hff', hbb', hss'⟩ := HG7.out.2.2
                            have HREL := hide (And.intro hS' (And.intro hcc' (And.intro hff' (And.intro hbb' hss'))))
                            clear hS' hcc' hff' hbb' hss'
                            go_wp2_with fail
                            go_roundg (ps.length - (k + 1))
                            case measure => omega
                            case rel =>
                              exact ⟨k + 1, acc ++ [⟨(txt ps[k]).extract 0 3, gs⟩], us', bss', some ⟨g7, 0, none⟩, cap8, by omega, rfl, by go_num, by rw [List.length_append, List.length_singleton, HAC.out], by rw [List.length_append, List.length_singleton]; exact HREL.out.2.1, HREL.out.2.2.1, by rw [List.length_append, List.length_singleton]; exact HREL.out.1, HREL.out.2.2.2.1, HREL.out.2.2.2.2, segs_step hlt HE.out (by rw [HTN.out]; exact HOK.out)⟩
                      · have HX5 := hide (seg_5 (d := d) (hd := h5) (i := k) (p := ps[k]) HNO.out HBAD.out (.inr hlg))
                        have HLG := hide hlg
                        clear hlg
                        go_wp2_with fail
                        refine (tooLong_any (fieldsT d h5 (restL k ps[k])) _ _ hFA).mono ?_
                        rintro e w' ⟨rfl, rfl⟩
                        rw [HLG.out]
                        have HXX : Hid (parseL s = .error 5) := by rw [HX.out]; exact segs_fail hlt HE.out HX5.out
                        go_wp2_with fail
                        exact bodyPost_ret (v := .tuple #[.agg #[.slice none 0 0], .int .i64 5]) (by simp [results, Tryz.results12, go_sem, hq1, hq2, hq3, hq4]) rfl (post_err HXX.out rfl (hq5.setCell (by simp) _))
                  · have HX4 := hide (seg_4b (d := d) (hd := h5) (i := k) (p := ps[k]) HNO.out HBAD.out)
                    have HXX : Hid (parseL s = .error 4) := by rw [HX.out]; exact segs_fail hlt HE.out HX4.out
                    go_wp2_with fail
                    exact bodyPost_ret (v := .tuple #[.agg #[.slice none 0 0], .int .i64 4]) (by simp [results, Tryz.results12, go_sem, hq1, hq2, hq3, hq4]) rfl (post_err HXX.out rfl (hq5.setCell (by simp) _))
            · have HX4 := hide (seg_4a (d := d) (hd := h5) (i := k) (p := ps[k]) (HB4.out.1 rfl))
              have HXX : Hid (parseL s = .error 4) := by rw [HX.out]; exact segs_fail hlt HE.out HX4.out
              go_wp2_with fail
              exact bodyPost_ret (v := .tuple #[.agg #[.slice none 0 0], .int .i64 4]) (by simp [results, Tryz.results12, go_sem, hq1, hq2, hq3, hq4]) rfl (post_err HXX.out rfl (hq5.setCell (by simp) _))
        · have HXX : Hid (parseL s = .ok acc) := by rw [HX.out]; exact segs_done (by omega) HE.out
          obtain ⟨bs, hO, hnd, hfr⟩ := HSB.out.segs (by omega)
          have hoc := HOC.out.1
          have hrs : w.heap.size < Wc.heap.size := by have := HBW.out.size; simp at this; omega
          have HFIN : Hid (∀ xs, parseL s = .ok xs → ∃ bs, OSegs (W1.setCell ⟨w.heap.size, 0, none⟩ (.slice a1 acc.length cap1)) (.slice a1 acc.length cap1) xs bs ∧ bs.Nodup ∧ ∀ b ∈ bs, w.heap.size ≤ b) := fun xs hx => by
            rw [HXX.out] at hx
            injection hx with hx
            subst hx
            exact ⟨bs, OAt.kept keptO_seg hO (by rw [Deep.nblk_setCell]; exact Nat.le_refl _) (fun c hc => Deep.blk_setCell_other _ _ _ _ (by have := hfr c hc; simp; omega)), hnd, fun b hb => by have := hfr b hb; omega⟩
          clear hO hnd hfr
          go_wp2_with fail
          exact bodyPost_ret (v := .tuple #[.agg #[.slice a1 acc.length cap1], .int .i64 0]) (by simp [results, Tryz.results12, go_sem, hq1, hq2, hq3, hq4]) rfl ⟨_, _, rfl, fun n hn => (by rw [HXX.out] at hn; cases hn), fun xs hx => ⟨rfl, HFIN.out xs hx⟩, hq5.setCell (by simp) _⟩
end Go.Proofs.YtcphfhfockjljaaGreatDoor.Msg
