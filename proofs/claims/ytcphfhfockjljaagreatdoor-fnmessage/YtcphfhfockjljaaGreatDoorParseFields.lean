import Derived.Test.YtcphfhfockjljaaGreatDoorParseReps
import Derived.Test.YtcphfhfockjljaaGreatDoorMsgTo3
import Derived.Deep.RegionHeld3
namespace Go.Proofs.YtcphfhfockjljaaGreatDoor.Msg
open Go.ChangeShapes Go.WideShapes Go.ChangeAt Go.RowKit
set_option linter.unusedVariables false
set_option linter.unusedSimpArgs false

/-- the fields of what stands behind a name -/
def fieldsL (c0 c1 c2 : UInt8) : List UInt8 → List (List (List (List UInt8)))
  | [] => []
  | _ :: l => trimE List.isEmpty ((cutL c0 l).map (repsL c1 c2))
def fieldT (f : List (List (List UInt8))) : Field := f.map repT

theorem extract_tail (s : ByteArray) : s.extract 1 s.size = txt s.data.toList.tail := by
  rw [txt_extract]
  have : s.data.toList.take s.size = s.data.toList := by rw [List.take_of_length_le (by simp)]
  rw [this]
  congr 1
  simp

set_option maxRecDepth 100000 in
set_option maxHeartbeats 2000000 in
theorem fields_any (s d : ByteArray) (w : World) (hs : s.size ≤ 1048576) (hd : 2 < d.size) :
    Calls Tryz.prog 30 #[.string s, .string d] w fun e w' => ∃ u, e = .returned u ∧ ∃ bs, OFields w' u ((fieldsL d[0] d[1] d[2] s.data.toList).map fieldT) bs ∧ bs.Nodup ∧ (∀ b ∈ bs, w.heap.size ≤ b) ∧ Below w.heap.size w w' := by
  obtain ⟨i0, hi, hz0, hz1, hz2⟩ := info_facts info_Field
  have hb0 := (Below.refl w.heap.size w).alloc (Nat.le_refl _) (Obj.cells #[] 49)
  by_cases h0 : s.size = 0
  · have hse : ((s.size : Int) == 0) = true := by rw [beq_iff_eq]; omega
    have hnil : s.data.toList = [] := List.length_eq_zero_iff.1 (by simpa using h0)
    have HN : Hid ((fieldsL d[0] d[1] d[2] s.data.toList).map fieldT = []) := by rw [hnil]; rfl
    clear hnil h0
    go_enter Tryz.func30, Tryz.ntmps30
    go_wp2_with fail
    go_ret
    exact ⟨_, rfl, [], by rw [HN.out]; exact ⟨by simp, .inl ⟨_, _, rfl, rfl, rfl⟩⟩, by simp, by simp, hb0⟩
  have hse : ((s.size : Int) == 0) = false := by rw [beq_eq_false_iff_ne]; omega
  have hs1 : (1 : Int) ≤ (s.size : Int) := by omega
  have hd' : (0 : Int) < (d.size : Int) := by omega
  have HT := hide (extract_tail s)
  have HP : Hid (fieldsL d[0] d[1] d[2] s.data.toList = trimE List.isEmpty ((cutL d[0] s.data.toList.tail).map (repsL d[1] d[2]))) := by
    cases hl : s.data.toList with
    | nil => exact absurd (by simpa using congrArg List.length hl) h0
    | cons x l => exact rfl
  have hsl : s.data.toList.tail.length ≤ 1048576 := by rw [List.length_tail]; simp; omega
  have HL : Hid ((cutL d[0] s.data.toList.tail).length ≤ 1048577) := by have := cutL_len d[0] s.data.toList.tail; show _ ≤ _; omega
  have HZ : Hid (∀ p ∈ cutL d[0] s.data.toList.tail, p.length ≤ 1048576) := fun p hp => by have := cutL_sz d[0] s.data.toList.tail p hp; omega
  have hpos := cutL_pos d[0] s.data.toList.tail
  have htsz : (txt s.data.toList.tail).size ≤ 1048576 := by rw [txt_size]; exact hsl
  clear hsl h0
  go_enter Tryz.func30, Tryz.ntmps30
  go_wp2_with fail
  go_region_held3 (fun w' => Below (w.alloc (Obj.cells #[] 49)).heap.size (w.alloc (Obj.cells #[] 49)) w')
    (first | exact hb9 | exact (Below.refl _ _).drew | assumption)
    ((go_at_call 28; rw [HT.out]; refine (cut_any (txt s.data.toList.tail) d[0] _ htsz).mono ?_; rintro e W1 ⟨u, rfl, hu, hb1⟩; have hb9 : Below (w.alloc (Obj.cells #[] 49)).heap.size (w.alloc (Obj.cells #[] 49)) W1 := bjoin hb1 (by first | assumption | exact (Below.refl _ _).drew)))
  rw [txt_data] at hu
  generalize cutL d[0] s.data.toList.tail = ps at *
  have hds : (w.alloc (Obj.cells #[] 49)).drew.heap.size = w.heap.size + 1 := by simp
  obtain ⟨g, cap, rfl, hg, hgl, hcap, hcm, hcell⟩ := pieces_form hu hpos
  rw [hds] at hg
  have HC := hide hcell
  have hlen := HL.out
  have HE := hide (LBuf.kept (O := OReps) (fun _ _ _ _ _ h s d => OAt.kept keptO_rep h s d) (LBuf.empty OReps 49 w.heap.size w (Nat.le_refl _)) hb9)
  have HBW := hide (bjoin' hb9 hb0)
  clear hu hcell hb1 hb9 hds hb0
  go_wp2_with fail
  go_loopw [5, 7, 8] (fun v5 n i wr => ∃ k : Nat, k ≤ ps.length ∧ i = .int .i64 (k : Int) ∧ n = .int .i64 ((keepN List.isEmpty ((ps.map (repsL d[1] d[2])).take k) : Nat) : Int) ∧ LBuf OReps 49 w.heap.size wr v5 (((ps.map (repsL d[1] d[2])).take k).map fieldT) ∧ Below w.heap.size w wr ∧ wr.heap[g]? = W1.heap[g]? ∧ v5.ownBlock ≠ some g ∧ g < wr.heap.size) (fun _ _ i _ => ps.length - (intOf i).toNat)
  case atStart => exact ⟨0, Nat.zero_le _, rfl, by simp [keepN], by simpa using HE.out, HBW.out, rfl, by simp [Value.ownBlock]; omega, hgl⟩
  case round =>
    obtain ⟨k, hk, rfl, rfl, hL, hb, hgb, hgo, hgr⟩ := hrel
    by_cases hlt : k < ps.length
    · have hkm : k < (ps.map (repsL d[1] d[2])).length := by rw [List.length_map]; exact hlt
      have hpc : wr.cell? ⟨g, k, none⟩ = some (.string (txt ps[k])) := by rw [cellSame hgb]; exact (HC.out k hlt).1
      have hpsz : (txt ps[k]).size ≤ 1048576 := by rw [txt_size]; exact HZ.out ps[k] (List.getElem_mem hlt)
      have hki : (k : Int) < (ps.length : Int) := by omega
      have hzr : w.heap.size ≤ wr.heap.size := hb.size
      have HGB := hide hgb
      have HGO := hide hgo
      have HLL := hide hL
      have HB := hide hb
      clear hL hb hgb hgo
      go_wp2_with fail
      refine (reps_any (txt ps[k]) d _ hpsz (by omega)).mono ?_
      rintro e w2 ⟨ur, rfl, bs, hO, hnd, hfr, hb2⟩
      rw [txt_data] at hO
      obtain ⟨a3, cap3, hur, hfm⟩ := (OAt.toAt toAt_rep hO (lo := 0) (fun _ _ => Nat.zero_le _)).form
      subst hur
      clear hfm
      have hb2' := HB.out
      obtain ⟨vs, bss, hv1, hv2, hv3, hv4, hv5⟩ := HLL.out
      have HOWN : Hid (wr.ownsRow w.heap.size 49 1 u5 ((((ps.map (repsL d[1] d[2])).take k).map fieldT)).length vs) := hv3
      have hlk : (((ps.map (repsL d[1] d[2])).take k).map fieldT).length = k := by rw [List.length_map, List.length_take]; omega
      have hown : wr.ownsRow w.heap.size 49 1 u5 k vs := by rw [← hlk]; exact hv3
      have hob : ∀ b, u5.ownBlock = some b → b < wr.heap.size := fun b hb' => (own_lt hown hb').2
      have HOB := hide hob
      have hbA : Below wr.heap.size wr ((w2.alloc (Obj.cells #[.slice a3 (List.map repT (repsL d[1] d[2] ps[k])).length cap3] 49)).alloc (Obj.cells #[.slice a3 (List.map repT (repsL d[1] d[2] ps[k])).length cap3] 49)) :=
        (hb2.alloc hb2.size _).alloc (by rw [Deep.nblk_alloc]; exact Nat.le_succ_of_le hb2.size) _
      have hOA := OAt.kept keptO_rep hO (w' := ((w2.alloc (Obj.cells #[.slice a3 (List.map repT (repsL d[1] d[2] ps[k])).length cap3] 49)).alloc (Obj.cells #[.slice a3 (List.map repT (repsL d[1] d[2] ps[k])).length cap3] 49))) (by simp; omega) (fun c hc => by
        have hcl := OAt.lt ltO_rep hO c hc
        rw [Deep.blk_alloc_lt _ _ _ (by simp; omega), Deep.blk_alloc_lt _ _ _ hcl])
      have hownA := own_below hown hbA
      have HBA := hide hbA
      have HOA := hide hOA
      have HND := hide hnd
      have HFR := hide hfr
      have HB2 := hide hb2
      have hz2' : wr.heap.size ≤ w2.heap.size := hb2.size
      clear hv1 hv2 hv3 hv4 hv5 hown hob hbA hOA hnd hfr hO hb2 hb2' hlk
      generalize hM : (List.map repT (repsL d[1] d[2] ps[k])).length = M at *
      have HM := hide hM
      clear hM
      go_wp2_with (first
        | (at_builtin; refine wpList_append_own_at _ rfl _ _ 39 rfl w.heap.size 49 i0 (.agg #[.slice none 0 0]) 1 24 Tryz.underlying39 hi hz0 hz1 hz2 rfl (by decide) _ _ _ rfl hownA ⟨w2.heap.size + 1, 0, none⟩ 1 1 [.slice a3 M cap3] rfl rfl ?c1 ?c2 ?c3 ?c4 ?c5 ?_)
        | fail)
      case c1 => exact fun j u hj => by have := new_cell (w2.alloc (Obj.cells #[.slice a3 M cap3] 49)) _ 49 j u hj; rwa [Deep.nblk_alloc] at this
      case c2 => exact one_slice _ _ _
      case c3 => unfold maxLen; omega
      case c4 => omega
      case c5 => simp; omega
      intro v' w5 hown' hgrow hnil hat
      have hlk : k = (((ps.map (repsL d[1] d[2])).take k).map fieldT).length := by rw [List.length_map, List.length_take]; omega
      have HPU := LBuf.push (O := OReps) (fun _ _ _ _ _ h s d => OAt.kept keptO_rep h s d) (fun _ _ _ _ h => OAt.lt ltO_rep h) HLL.out hzr HBA.out HOA.out HFR.out HND.out HOWN.out hlk hown' hgrow (by simpa using hat)
      have HPU2 : Hid (LBuf OReps 49 w.heap.size w5 v' (((ps.map (repsL d[1] d[2])).take (k + 1)).map fieldT)) := by
        rw [List.take_succ_eq_append_getElem hkm, List.map_append, List.map_cons, List.map_nil, List.getElem_map]; exact HPU
      have hr5 : w5.cell? ⟨w2.heap.size, 0, none⟩ = some (.slice a3 M cap3) := by
        rw [World.cell?_of_block (hgrow.block w2.heap.size (by simp; omega) (fun e => by have := HOB.out _ e.symm; omega))]; simp
      have HBW5 : Hid (Below w.heap.size w w5) := (HB.out.trans (HBA.out.mono hzr)).grown hgrow (by simp; omega) (fun b hb' => (own_lt hownA hb').1)
      have HG5 : Hid (w5.heap[g]? = W1.heap[g]?) := ((hgrow.block g (by simp; omega) (fun e => HGO.out e.symm)).trans (HBA.out.block g hgr)).trans HGB.out
      have HO5 : Hid (v'.ownBlock ≠ some g) := by
        rcases hat with h | h
        · rw [h]; exact HGO.out
        · rw [h]; intro e; injection e with e; omega
      have hgr5 : g < w5.heap.size := by have := hgrow.size; simp at this; omega
      have hw5 : w2.heap.size < w5.heap.size := by have := hgrow.size; simp at this; omega
      have HKS := hide (keepN_snoc List.isEmpty (ps.map (repsL d[1] d[2])) k hkm)
      have hge : (ps.map (repsL d[1] d[2]))[k] = repsL d[1] d[2] ps[k] := by rw [List.getElem_map]
      have HGE := hide hge
      have hMl : M = (repsL d[1] d[2] ps[k]).length := by rw [← HM.out, List.length_map]
      clear hown' hgrow hnil hat HPU hownA hge hlk
      by_cases hM0 : M = 0
      · have HEM : Hid ((repsL d[1] d[2] ps[k]).isEmpty = true) := by rw [List.length_eq_zero_iff.1 (by omega : (repsL d[1] d[2] ps[k]).length = 0)]; rfl
        have hMz : ¬ (0 : Int) < (M : Int) := by omega
        have HNN : Hid (keepN List.isEmpty ((ps.map (repsL d[1] d[2])).take (k + 1)) = keepN List.isEmpty ((ps.map (repsL d[1] d[2])).take k)) := by rw [HKS.out, HGE.out, if_pos HEM.out]; exact rfl
        clear hM0 hMl
        go_wp2_with fail
        go_roundw
        case rel => exact ⟨k + 1, by omega, by go_num, by rw [HNN.out], HPU2.out, HBW5.out, HG5.out, HO5.out, hgr5⟩
        case measure => simp [intOf]; omega
      · have HEM : Hid (¬ (repsL d[1] d[2] ps[k]).isEmpty = true) := by
          intro h
          rw [List.isEmpty_iff] at h
          rw [h] at hMl
          exact hM0 hMl
        have hMz : (0 : Int) < (M : Int) := by omega
        have HNN : Hid (keepN List.isEmpty ((ps.map (repsL d[1] d[2])).take (k + 1)) = k + 1) := by rw [HKS.out, HGE.out, if_neg HEM.out]; exact rfl
        clear hM0 hMl
        go_wp2_with fail
        go_roundw
        case rel => exact ⟨k + 1, by omega, by go_num, by rw [HNN.out]; go_num, HPU2.out, HBW5.out, HG5.out, HO5.out, hgr5⟩
        case measure => simp [intOf]; omega
    · obtain rfl : k = ps.length := by omega
      have hall : (ps.map (repsL d[1] d[2])).take ps.length = ps.map (repsL d[1] d[2]) := by rw [← List.length_map (f := repsL d[1] d[2]), List.take_length]
      rw [hall] at hL ⊢
      have hkn := keepN_le List.isEmpty (ps.map (repsL d[1] d[2]))
      rw [List.length_map] at hkn
      have hkl : ((ps.map (repsL d[1] d[2])).map fieldT).length = ps.length := by simp
      obtain ⟨a6, cap6, rfl, hc6, hc6m, bs, hO, hnd, hbs⟩ := LBuf.take (R := FieldO) (fun w b off x bs v h1 h2 => ⟨v, h1, h2⟩) hL (by rw [hkl]; omega) (n := keepN List.isEmpty (ps.map (repsL d[1] d[2]))) (by rw [hkl]; exact hkn)
      rw [hkl] at hc6
      have HO : Hid (OFields wr (.slice a6 (keepN List.isEmpty (ps.map (repsL d[1] d[2]))) cap6) ((fieldsL d[0] d[1] d[2] s.data.toList).map fieldT) bs) := by rw [HP.out]; unfold trimE; rw [List.map_take]; exact hO
      generalize keepN List.isEmpty (ps.map (repsL d[1] d[2])) = N at *
      clear hL hO hall
      rw [hkl]
      go_wp2_with fail
      go_ret
      exact ⟨_, rfl, bs, HO.out, hnd, hbs, hb⟩
end Go.Proofs.YtcphfhfockjljaaGreatDoor.Msg
