import Derived.Test.YtpdnocolmghnbaaDoorMsgEq2
import Derived.Test.YtpdnocolmghnbaaDoorMarkMsg
import Derived.Deep.RegionHeld3
namespace Go.Proofs.YtpdnocolmghnbaaDoor.Msg
open Go.ChangeShapes Go.WideShapes Go.ChangeAt Go.RowKit

set_option maxHeartbeats 400000 in
theorem eqField_any (x : Field) (v u : Value) (w : World) {lo lo2 : Nat} (hv : RepsAt lo w v x) (hu : RepsAt lo2 w u x) :
    Calls Tryd.prog 67 #[.agg #[v], .agg #[u]] w fun e w' => e = .returned (.bool true) ∧ Below w.heap.size w w' := by
  have hb := ((Below.refl w.heap.size w).alloc (Nat.le_refl _) (Obj.cells #[v] 47)).alloc (by simp) (Obj.cells #[u] 47)
  have hv' := At.kept kept_rep hv hb
  have hu' := At.kept kept_rep hu hb
  go_enter Tryd.func67, Tryd.ntmps67
  go_wp2_with fail
  refine (eqReps_any x v u _ hv' hu').mono ?_
  rintro e w' ⟨rfl, hb'⟩
  go_wp2_with fail
  go_ret
  exact ⟨rfl, hb.trans (hb'.mono (by simp; omega))⟩

set_option maxHeartbeats 800000 in
theorem eqFields_any (xs : List Field) (v u : Value) (w : World) {lo lo2 : Nat} (hv : FieldsAt lo w v xs) (hu : FieldsAt lo2 w u xs) :
    Calls Tryd.prog 49 #[v, u] w fun e w' => e = .returned (.bool true) ∧ Below w.heap.size w w' := by
  obtain ⟨hl, hv⟩ := hv
  obtain ⟨_, hu⟩ := hu
  by_cases hx : xs = []
  · subst hx
    obtain ⟨a0, c0, rfl⟩ : ∃ a c, v = .slice a 0 c := by
      rcases hv with ⟨_, _, rfl, _⟩ | ⟨b, off, cap, rfl, _⟩
      · exact ⟨_, _, rfl⟩
      · exact ⟨_, _, rfl⟩
    obtain ⟨a1, c1, rfl⟩ : ∃ a c, u = .slice a 0 c := by
      rcases hu with ⟨_, _, rfl, _⟩ | ⟨b, off, cap, rfl, _⟩
      · exact ⟨_, _, rfl⟩
      · exact ⟨_, _, rfl⟩
    clear hv hu
    go_enter Tryd.func49, Tryd.ntmps49
    go_wp2
    go_loop [5] (fun i => i = .int .i64 0) (fun _ => 0)
    case atStart => rfl
    case round =>
      subst hrel
      go_wp2
      go_ret
      exact ⟨rfl, Below.refl _ _⟩
  · rcases hv with ⟨_, _, _, e⟩ | ⟨b, off, cap, rfl, ⟨_, hlt⟩, hc⟩
    · exact absurd e hx
    rcases hu with ⟨_, _, _, e⟩ | ⟨b2, off2, cap2, rfl, ⟨_, hlt2⟩, hc2⟩
    · exact absurd e hx
    clear hx
    go_enter Tryd.func49, Tryd.ntmps49
    go_wp2
    go_loopw [5] (fun i w1 => ∃ k : Nat, k ≤ xs.length ∧ i = .int .i64 k ∧ Below w.heap.size w w1) (fun i _ => xs.length - (intOf i).toNat)
    case atStart => exact ⟨0, Nat.zero_le _, rfl, Below.refl _ _⟩
    case round =>
      obtain ⟨k, hk, rfl, hb⟩ := hrel
      by_cases hk2 : k < xs.length
      · obtain ⟨ve, hcell, hel⟩ := hc k hk2
        obtain ⟨ue, hcell2, hel2⟩ := hc2 k hk2
        have h1 : wr.cell? ⟨b, off + k, none⟩ = some ve := by rw [hb.cell (p := ⟨b, off + k, none⟩) hlt]; simpa using hcell
        have h2 : wr.cell? ⟨b2, off2 + k, none⟩ = some ue := by rw [hb.cell (p := ⟨b2, off2 + k, none⟩) hlt2]; simpa using hcell2
        have g1 : w.cell? ⟨b, off + k, none⟩ = some ve := by simpa using hcell
        have g2 : w.cell? ⟨b2, off2 + k, none⟩ = some ue := by simpa using hcell2
        have hi : (k : Int) < (xs.length : Int) := by omega
        have hi0 : (0 : Int) ≤ (k : Int) := by omega
        have hd := hb.drew
        clear hc hc2 hcell hcell2
        go_wp2
        go_region_held3 (fun w' => w'.cell? ⟨b, off + k, none⟩ = some ve ∧ w'.cell? ⟨b2, off2 + k, none⟩ = some ue ∧ Below w.heap.size w w')
          (first | exact hold2 hd hlt hlt2 g1 g2 | exact hold2 hb9 hlt hlt2 g1 g2)
          ((go_at_call 67; refine (eqField_any xs[k] ve ue _ (by exact At.kept kept_rep hel (by assumption)) (by exact At.kept kept_rep hel2 (by assumption))).mono ?_; rintro e w2 ⟨rfl, hb2⟩; have hb9 : Below w.heap.size w w2 := bjoin hb2 (by assumption)))
        go_wp2
        go_roundw
        case rel => exact ⟨k + 1, by omega, by go_num, hb9⟩
        case measure => simp [intOf]; omega
      · go_wp2
        go_ret
        exact ⟨rfl, hb⟩
set_option maxHeartbeats 400000 in
theorem eqSeg_any (x : Seg) (v u : Value) (w : World) {lo lo2 : Nat} (hv : FieldsAt lo w v x.fields) (hu : FieldsAt lo2 w u x.fields) :
    Calls Tryd.prog 32 #[.agg #[.string x.name, v], .agg #[.string x.name, u]] w fun e w' => e = .returned (.bool true) ∧ Below w.heap.size w w' := by
  have hb := ((Below.refl w.heap.size w).alloc (Nat.le_refl _) (Obj.cells #[.string x.name, v] 38)).alloc (by simp) (Obj.cells #[.string x.name, u] 38)
  have hv' := At.kept kept_field hv hb
  have hu' := At.kept kept_field hu hb
  go_enter Tryd.func32, Tryd.ntmps32
  go_wp2_with fail
  refine (eqFields_any x.fields v u _ hv' hu').mono ?_
  rintro e w' ⟨rfl, hb'⟩
  go_wp2_with fail
  go_ret
  exact ⟨rfl, hb.trans (hb'.mono (by simp; omega))⟩

theorem hold4 {w w' : World} {b o b2 o2 : Nat} {v u n m : Value} (h : Below w.heap.size w w') (h1 : b < w.heap.size) (h2 : b2 < w.heap.size) (g1 : w.cell? ⟨b, o, none⟩ = some n) (g2 : w.cell? ⟨b, o + 1, none⟩ = some v)
    (g3 : w.cell? ⟨b2, o2, none⟩ = some m) (g4 : w.cell? ⟨b2, o2 + 1, none⟩ = some u) :
    w'.cell? ⟨b, o, none⟩ = some n ∧ w'.cell? ⟨b, o + 1, none⟩ = some v ∧ w'.cell? ⟨b2, o2, none⟩ = some m ∧ w'.cell? ⟨b2, o2 + 1, none⟩ = some u ∧ Below w.heap.size w w' :=
  ⟨by rw [h.cell (p := ⟨b, o, none⟩) h1]; exact g1, by rw [h.cell (p := ⟨b, o + 1, none⟩) h1]; exact g2, by rw [h.cell (p := ⟨b2, o2, none⟩) h2]; exact g3, by rw [h.cell (p := ⟨b2, o2 + 1, none⟩) h2]; exact g4, h⟩

set_option maxHeartbeats 800000 in
theorem eqSegs_any (xs : List Seg) (v u : Value) (w : World) {lo lo2 : Nat} (hv : SegsAt lo w v xs) (hu : SegsAt lo2 w u xs) :
    Calls Tryd.prog 19 #[v, u] w fun e w' => e = .returned (.bool true) ∧ Below w.heap.size w w' := by
  obtain ⟨hl, hv⟩ := hv
  obtain ⟨_, hu⟩ := hu
  by_cases hx : xs = []
  · subst hx
    obtain ⟨a0, c0, rfl⟩ : ∃ a c, v = .slice a 0 c := by
      rcases hv with ⟨_, _, rfl, _⟩ | ⟨b, off, cap, rfl, _⟩
      · exact ⟨_, _, rfl⟩
      · exact ⟨_, _, rfl⟩
    obtain ⟨a1, c1, rfl⟩ : ∃ a c, u = .slice a 0 c := by
      rcases hu with ⟨_, _, rfl, _⟩ | ⟨b, off, cap, rfl, _⟩
      · exact ⟨_, _, rfl⟩
      · exact ⟨_, _, rfl⟩
    clear hv hu
    go_enter Tryd.func19, Tryd.ntmps19
    go_wp2
    go_loop [5] (fun i => i = .int .i64 0) (fun _ => 0)
    case atStart => rfl
    case round =>
      subst hrel
      go_wp2
      go_ret
      exact ⟨rfl, Below.refl _ _⟩
  · rcases hv with ⟨_, _, _, e⟩ | ⟨b, off, cap, rfl, ⟨_, hlt⟩, hc⟩
    · exact absurd e hx
    rcases hu with ⟨_, _, _, e⟩ | ⟨b2, off2, cap2, rfl, ⟨_, hlt2⟩, hc2⟩
    · exact absurd e hx
    clear hx
    go_enter Tryd.func19, Tryd.ntmps19
    go_wp2
    go_loopw [5] (fun i w1 => ∃ k : Nat, k ≤ xs.length ∧ i = .int .i64 k ∧ Below w.heap.size w w1) (fun i _ => xs.length - (intOf i).toNat)
    case atStart => exact ⟨0, Nat.zero_le _, rfl, Below.refl _ _⟩
    case round =>
      obtain ⟨k, hk, rfl, hb⟩ := hrel
      by_cases hk2 : k < xs.length
      · obtain ⟨g1, _, ve, g2, hel⟩ := hc k hk2
        obtain ⟨g3, _, ue, g4, hel2⟩ := hc2 k hk2
        have h1 : wr.cell? ⟨b, off + k * 2, none⟩ = some (.string xs[k].name) := by rw [hb.cell (p := ⟨b, off + k * 2, none⟩) hlt]; exact g1
        have h2 : wr.cell? ⟨b, off + k * 2 + 1, none⟩ = some ve := by rw [hb.cell (p := ⟨b, off + k * 2 + 1, none⟩) hlt]; exact g2
        have h3 : wr.cell? ⟨b2, off2 + k * 2, none⟩ = some (.string xs[k].name) := by rw [hb.cell (p := ⟨b2, off2 + k * 2, none⟩) hlt2]; exact g3
        have h4 : wr.cell? ⟨b2, off2 + k * 2 + 1, none⟩ = some ue := by rw [hb.cell (p := ⟨b2, off2 + k * 2 + 1, none⟩) hlt2]; exact g4
        have hi : (k : Int) < (xs.length : Int) := by omega
        have hi0 : (0 : Int) ≤ (k : Int) := by omega
        have hd := hb.drew
        clear hc hc2
        go_wp2
        go_region_held3 (fun w' => w'.cell? ⟨b, off + k * 2, none⟩ = some (.string xs[k].name) ∧ w'.cell? ⟨b, off + k * 2 + 1, none⟩ = some ve ∧ w'.cell? ⟨b2, off2 + k * 2, none⟩ = some (.string xs[k].name) ∧ w'.cell? ⟨b2, off2 + k * 2 + 1, none⟩ = some ue ∧ Below w.heap.size w w')
          (first | exact hold4 hd hlt hlt2 g1 g2 g3 g4 | exact hold4 hb9 hlt hlt2 g1 g2 g3 g4)
          ((go_at_call 32; refine (eqSeg_any xs[k] ve ue _ (by exact At.kept kept_field hel (by assumption)) (by exact At.kept kept_field hel2 (by assumption))).mono ?_; rintro e w2 ⟨rfl, hb2⟩; have hb9 : Below w.heap.size w w2 := bjoin hb2 (by assumption)))
        go_wp2
        go_roundw
        case rel => exact ⟨k + 1, by omega, by go_num, hb9⟩
        case measure => simp [intOf]; omega
      · go_wp2
        go_ret
        exact ⟨rfl, hb⟩
set_option maxHeartbeats 400000 in
theorem eqMsg_any (x : List Seg) (v u : Value) (w : World) {lo lo2 : Nat} (hv : SegsAt lo w v x) (hu : SegsAt lo2 w u x) :
    Calls Tryd.prog 6 #[.agg #[v], .agg #[u]] w fun e w' => e = .returned (.bool true) ∧ Below w.heap.size w w' := by
  have hb := ((Below.refl w.heap.size w).alloc (Nat.le_refl _) (Obj.cells #[v] 24)).alloc (by simp) (Obj.cells #[u] 24)
  have hv' := At.kept kept_seg hv hb
  have hu' := At.kept kept_seg hu hb
  go_enter Tryd.func6, Tryd.ntmps6
  go_wp2_with fail
  refine (eqSegs_any x v u _ hv' hu').mono ?_
  rintro e w' ⟨rfl, hb'⟩
  go_wp2_with fail
  go_ret
  exact ⟨rfl, hb.trans (hb'.mono (by simp; omega))⟩

end Go.Proofs.YtpdnocolmghnbaaDoor.Msg

namespace Go.Proofs.YtpdnocolmghnbaaDoor.Msg
open Go.ChangeShapes Go.WideShapes Go.ChangeAt Go.RowKit
set_option linter.unusedVariables false
set_option linter.unusedSimpArgs false

def MixS (k : Nat) (w : World) (b off : Nat) (xs : List Seg) (bss : List (List Nat)) (j : Nat) : Prop :=
  ∀ i (h : i < xs.length) (h2 : i < bss.length), SegO w b (off + i * 2) (if i < j then mkSeg (k + sumOf cSeg (xs.take i)) xs[i] else xs[i]) bss[i]

theorem MixS.step {k : Nat} {w w2 w4 : World} {b off : Nat} {xs : List Seg} {bss : List (List Nat)} {j : Nat} {v : Value}
    (h : MixS k w b off xs bss j) (hb : b < w.heap.size) (hn : (b :: bss.flatten).Nodup) (hj : j < xs.length) (hj2 : j < bss.length) (hk : k + sumOf cSeg (xs.take j) < 18446744073709551616)
    (hb2 : Below w.heap.size w w2) (hv : w.cell? ⟨b, off + j * 2 + 1, none⟩ = some v)
    (ho : Only bss[j] (w2.setCell ⟨b, off + j * 2, none⟩ (.string (markT (k + sumOf cSeg (xs.take j))))) w4)
    (hO : OFields w4 v (mkFields (k + sumOf cSeg (xs.take j) + 1) xs[j].fields) bss[j]) : MixS k w4 b off xs bss (j + 1) := by
  have hn0 := hn
  rw [List.nodup_cons] at hn
  have hnb : ∀ i (h2 : i < bss.length), b ∉ bss[i] := fun i h2 hm => hn.1 (by rw [List.mem_flatten]; exact ⟨_, List.getElem_mem h2, hm⟩)
  have hs2 := hb2.size
  have hrow4 : w4.heap[b]? = (w2.setCell ⟨b, off + j * 2, none⟩ (.string (markT (k + sumOf cSeg (xs.take j))))).heap[b]? := ho.block b (by rw [Deep.nblk_setCell]; omega) (hnb j hj2)
  have hfz : ∀ o, w4.frozen? ⟨b, o, none⟩ = w.frozen? ⟨b, o, none⟩ := fun o => by rw [frozenSame hrow4, World.frozen?_setCell, hb2.frozen (p := ⟨b, o, none⟩) hb]
  have hoth : ∀ o, o ≠ off + j * 2 → w4.cell? ⟨b, o, none⟩ = w.cell? ⟨b, o, none⟩ := fun o ho' => by
    rw [cellSame hrow4, World.cell?_setCell_other _ _ _ _ (by intro e; injection e with _ e2 _; omega), hb2.cell (p := ⟨b, o, none⟩) hb]
  intro i hi h2
  by_cases e : i = j
  · subst e
    obtain ⟨g0, gf, gz, vi, g1, g2⟩ := h i hi h2
    rw [if_pos (by omega)]
    refine ⟨?_, by rw [hfz]; exact gf, by have := markT_size _ hk; exact Nat.le_trans this (by omega), v, by rw [hoth _ (by omega)]; exact hv, hO⟩
    rw [cellSame hrow4, World.cell?_setCell_same _ _ _ (u := .string (if i < i then mkSeg (k + sumOf cSeg (xs.take i)) xs[i] else xs[i]).name) (by rw [hb2.cell (p := ⟨b, off + i * 2, none⟩) hb]; exact g0)]
    rfl
  · obtain ⟨g0, gf, gz, vi, g1, g2⟩ := h i hi h2
    have g3 : OFields w4 vi _ bss[i] := OAt.kept keptO_field g2 (by have := ho.size; rw [Deep.nblk_setCell] at this; omega) fun d hd => by
      have hdl := OAt.lt ltO_field g2 d hd
      rw [ho.block d (by rw [Deep.nblk_setCell]; omega) (disj_of hn.2 h2 hj2 e hd), Deep.blk_setCell_other _ _ _ _ (fun e2 => hnb i h2 (by have e3 : d = b := e2; rw [← e3]; exact hd))]
      exact hb2.block d hdl
    have g4 : SegO w4 b (off + i * 2) (if i < j then mkSeg (k + sumOf cSeg (xs.take i)) xs[i] else xs[i]) bss[i] :=
      ⟨by rw [hoth _ (by omega)]; exact g0, by rw [hfz]; exact gf, gz, vi, by rw [hoth _ (by omega)]; exact g1, g3⟩
    by_cases e2 : i < j
    · rw [if_pos e2] at g4; rw [if_pos (by omega)]; exact g4
    · rw [if_neg e2] at g4; rw [if_neg (by omega)]; exact g4

set_option maxHeartbeats 1000000 in
theorem markSegs_any (xs : List Seg) (v : Value) (bs : List Nat) (k : Nat) (w : World) (hk : 1 ≤ k) (hkb : k + cMsg xs ≤ 4611686018427387904) (hnd : bs.Nodup) (hv : OSegs w v xs bs) :
    Calls Tryd.prog 20 #[v, .int .i64 (k : Int)] w fun e w' => e = .returned (.int .i64 ((k + cMsg xs : Nat) : Int)) ∧ Only bs w w' ∧ OSegs w' v (mkMsg k xs) bs := by
  obtain ⟨hl, hv⟩ := hv
  rcases hv with ⟨a0, c0, rfl, rfl, rfl⟩ | ⟨b, off, cap, bss, rfl, hlt, rfl, hlen, hc⟩
  · go_enter Tryd.func20, Tryd.ntmps20
    go_wp2
    go_loop [1, 5] (fun r i => r = .int .i64 (k : Int) ∧ i = .int .i64 0) (fun _ _ => 0)
    case atStart => exact ⟨rfl, rfl⟩
    case round =>
      obtain ⟨rfl, rfl⟩ := hrel
      go_wp2
      go_ret
      exact ⟨ret_int (by simp [cMsg, sumOf]), Only.refl _ _, ⟨by simp [mkMsg, mkL], .inl ⟨_, _, rfl, rfl, rfl⟩⟩⟩
  · have hmix0 : MixS k w b off xs bss 0 := fun i hi h2 => by rw [if_neg (by omega)]; exact hc i hi h2
    have HCF : Hid (cMsg xs = sumOf cSeg xs) := rfl
    clear hc
    go_enter Tryd.func20, Tryd.ntmps20
    go_wp2
    go_loopw [1, 5] (fun r i w1 => ∃ j : Nat, j ≤ xs.length ∧ i = .int .i64 j ∧ r = .int .i64 ((k + sumOf cSeg (xs.take j) : Nat) : Int) ∧ MixS k w1 b off xs bss j ∧ Only (b :: bss.flatten) w w1) (fun _ i _ => xs.length - (intOf i).toNat)
    case atStart => exact ⟨0, Nat.zero_le _, rfl, by simp [sumOf], hmix0, Only.refl _ _⟩
    case round =>
      clear hmix0
      obtain ⟨j, hj, rfl, rfl, hmix, ho⟩ := hrel
      by_cases hj2 : j < xs.length
      · have hbl : b < wr.heap.size := Nat.lt_of_lt_of_le hlt ho.size
        have hjb : j < bss.length := by omega
        obtain ⟨hc0, hfz0, _, ve, hc1, hO⟩ := hmix j hj2 hjb
        rw [if_neg (by omega)] at hO hc0
        have HM := hide hmix
        have HO := hide ho
        have HOO := hide hO
        have hcs : cSeg xs[j] = 1 + cFields xs[j].fields := rfl
        have hst := sum_take cSeg xs j hj2
        have hsl := sum_le cSeg xs (j + 1)
        have hcf := HCF.out
        have hroom : k + sumOf cSeg (xs.take j) + 1 + cFields xs[j].fields ≤ 4611686018427387904 := by omega
        have HST : Hid (k + sumOf cSeg (xs.take (j + 1)) = k + sumOf cSeg (xs.take j) + 1 + cFields xs[j].fields) := by rw [hst, hcs]; show _ = _; omega
        clear hmix ho hO hst hsl hcf hcs
        generalize hK : k + sumOf cSeg (xs.take j) = K at *
        have HK := hide hK
        clear hK
        obtain ⟨a2, cap2, rfl, _⟩ := (OAt.toAt toAt_field HOO.out (lo := 0) (fun _ _ => Nat.zero_le _)).form
        go_wp2_with fail
        refine (markText_any K _ (by have := HK.out; omega) (by omega)).mono ?_
        rintro e w2 ⟨rfl, hb2⟩
        have hc0' : w2.cell? ⟨b, off + j * 2, none⟩ = some (.string xs[j].name) := by rw [hb2.cell (p := ⟨b, off + j * 2, none⟩) hbl]; exact hc0
        have hf0' : w2.frozen? ⟨b, off + j * 2, none⟩ = false := by rw [hb2.frozen (p := ⟨b, off + j * 2, none⟩) hbl]; exact hfz0
        have hc1' : (w2.setCell ⟨b, off + j * 2, none⟩ (.string (markT K))).cell? ⟨b, off + j * 2 + 1, none⟩ = some (.slice a2 xs[j].fields.length cap2) := by
          rw [World.cell?_setCell_other _ _ _ _ (by intro e; injection e with _ e2 _; omega), hb2.cell (p := ⟨b, off + j * 2 + 1, none⟩) hbl]; exact hc1
        have hnb : b ∉ bss[j] := fun hm => (List.nodup_cons.1 hnd).1 (by rw [List.mem_flatten]; exact ⟨_, List.getElem_mem hjb, hm⟩)
        have hO3 : OFields (w2.setCell ⟨b, off + j * 2, none⟩ (.string (markT K))) (.slice a2 xs[j].fields.length cap2) xs[j].fields bss[j] :=
          OAt.kept keptO_field HOO.out (by rw [Deep.nblk_setCell]; exact hb2.size) fun d hd => by
            rw [Deep.blk_setCell_other _ _ _ _ (fun e2 => hnb (by have e3 : d = b := e2; rw [← e3]; exact hd))]
            exact hb2.block d (OAt.lt ltO_field HOO.out d hd)
        have HB2 := hide hb2
        have HC1 := hide hc1
        clear hc0 hfz0 hb2 hc1
        go_wp2_with fail
        have ecast : ((K : Int) + 1) = ((K + 1 : Nat) : Int) := by omega
        rw [ecast]
        refine (markFields_any xs[j].fields _ bss[j] (K + 1) _ (by omega) (by omega) (nodup_at hnd hjb) hO3).mono ?_
        rintro e w4 ⟨rfl, ho4, hO4⟩
        have HN := hide (MixS.step (w2 := w2) (w4 := w4) HM.out hbl hnd hj2 hjb (by rw [HK.out]; omega) HB2.out HC1.out (by rw [HK.out]; exact ho4) (by rw [HK.out]; exact hO4))
        have HN2 := hide (((HO.out.trans (Only.of_below HB2.out)).setCell (b := b) (o := off + j * 2) (by simp) (.string (markT K))).trans (ho4.mono (sub_flat hjb b)))
        clear ho4 hO4 hO3 hc0' hf0' hc1' ecast
        go_wp2_with fail
        go_roundw
        case rel => exact ⟨j + 1, by omega, by go_num, by rw [HST.out]; go_num, HN.out, HN2.out⟩
        case measure => simp [intOf]; omega
      · obtain rfl : j = xs.length := by omega
        go_wp2_with fail
        go_ret
        refine ⟨ret_int (by rw [HCF.out, List.take_length]), ho, ⟨by unfold mkMsg; rw [mkL_len]; exact hl, .inr ⟨b, off, cap, bss, by unfold mkMsg; rw [mkL_len], Nat.lt_of_lt_of_le hlt ho.size, rfl, by unfold mkMsg; rw [mkL_len]; exact hlen, fun i hi h2 => ?_⟩⟩⟩
        have hi' : i < xs.length := by unfold mkMsg at hi; rw [mkL_len] at hi; exact hi
        have h3 := hmix i hi' h2
        rw [if_pos hi'] at h3
        have e1 : (mkMsg k xs)[i] = mkSeg (k + sumOf cSeg (xs.take i)) xs[i] := mkL_get mkSeg cSeg ⟨⟨#[]⟩, []⟩ k xs i hi' hi
        rw [e1]
        exact h3

set_option maxHeartbeats 400000 in
theorem markMsg_any (xs : List Seg) (v : Value) (bs : List Nat) (k : Nat) (w : World) (hk : 1 ≤ k) (hkb : k + cMsg xs ≤ 4611686018427387904) (hnd : bs.Nodup) (hv : OSegs w v xs bs) :
    Calls Tryd.prog 7 #[.agg #[v], .int .i64 (k : Int)] w fun e w' => e = .returned (.int .i64 ((k + cMsg xs : Nat) : Int)) ∧ Only bs w w' ∧ OSegs w' v (mkMsg k xs) bs := by
  have hb := (Below.refl w.heap.size w).alloc (Nat.le_refl _) (Obj.cells #[v] 24)
  have hv1 : OSegs (w.alloc (Obj.cells #[v] 24)) v xs bs := OAt.kept keptO_seg hv hb.size fun c hc => hb.block c (OAt.lt ltO_seg hv c hc)
  go_enter Tryd.func7, Tryd.ntmps7
  go_wp2_with fail
  refine (markSegs_any xs v bs k _ hk hkb hnd hv1).mono ?_
  rintro e w' ⟨rfl, ho, hO⟩
  go_wp2_with fail
  go_ret
  exact ⟨rfl, (Only.of_below hb).trans ho, hO⟩
end Go.Proofs.YtpdnocolmghnbaaDoor.Msg

namespace Go.Proofs.YtpdnocolmghnbaaDoor.Msg
open Go.ChangeShapes Go.WideShapes Go.ChangeAt Go.RowKit
set_option linter.unusedVariables false
set_option linter.unusedSimpArgs false

theorem hold1 {w w' : World} {b o : Nat} {v : Value} (h : Below w.heap.size w w') (h1 : b < w.heap.size) (g1 : w.cell? ⟨b, o, none⟩ = some v) : w'.cell? ⟨b, o, none⟩ = some v ∧ Below w.heap.size w w' :=
  ⟨by rw [h.cell (p := ⟨b, o, none⟩) h1]; exact g1, h⟩

/-- the places of a marked list -/
theorem mkL_form {α : Type} {n : Nat} {R : Nat → World → Nat → Nat → α → Prop} {mk : Nat → α → α} {c : α → Nat} {d : α} {k lo : Nat} {w : World} {v : Value} {xs : List α} (h : At n R lo w v (mkL mk c d k xs)) :
    ∃ a cap, v = .slice a xs.length cap ∧ ∀ j (h : j < xs.length), ∃ b off, a = some ⟨b, off, none⟩ ∧ b < w.heap.size ∧ R lo w b (off + j * n) (mk (k + sumOf c (xs.take j)) xs[j]) := by
  obtain ⟨a, cap, rfl, hc⟩ := h.form
  refine ⟨a, cap, by rw [mkL_len], fun j hj => ?_⟩
  obtain ⟨b, off, e, _, hb, hr⟩ := hc j (by rw [mkL_len]; exact hj)
  rw [mkL_get mk c d k xs j hj] at hr
  exact ⟨b, off, e, hb, hr⟩

set_option maxHeartbeats 1000000 in
theorem heldStrs_any (xs : List ByteArray) (v : Value) (k : Nat) (w : World) (hk : 1 ≤ k) (hkb : k + cRep xs ≤ 4611686018427387904) {lo : Nat} (hv : StrsAt lo w v (mkRep k xs)) :
    Calls Tryd.prog 69 #[v, .int .i64 (k : Int)] w fun e w' => e = .returned (.int .i64 ((k + cRep xs : Nat) : Int)) ∧ Below w.heap.size w w' := by
  have hl : xs.length ≤ 9223372036854775807 := by have := hv.1; unfold mkRep at this; rw [mkL_len] at this; exact this
  have HCL := hide (cRep_len xs)
  rw [HCL.out] at hkb ⊢
  obtain ⟨a, cap, rfl, hc⟩ := mkL_form hv
  have HC : Hid (∀ j (h : j < xs.length), ∃ b off, a = some ⟨b, off, none⟩ ∧ b < w.heap.size ∧ w.cell? ⟨b, off + j, none⟩ = some (.string (markT (k + j)))) := fun j hj => by
    obtain ⟨b, off, e, hb, hr⟩ := hc j hj
    rw [one_take xs j (by omega)] at hr
    exact ⟨b, off, e, hb, by have h9 := hr.1; rw [Nat.mul_one] at h9; exact h9⟩
  clear hc hv
  go_enter Tryd.func69, Tryd.ntmps69
  go_wp2
  go_loopw [1, 5] (fun r i w1 => ∃ j : Nat, j ≤ xs.length ∧ i = .int .i64 j ∧ r = .int .i64 ((k : Int) + (j : Int)) ∧ Below w.heap.size w w1) (fun _ i _ => xs.length - (intOf i).toNat)
  case atStart => exact ⟨0, Nat.zero_le _, rfl, by simp, Below.refl _ _⟩
  case round =>
    obtain ⟨j, hj, rfl, rfl, hb⟩ := hrel
    by_cases hj2 : j < xs.length
    · obtain ⟨b, off, rfl, hbl, hcell⟩ := HC.out j hj2
      have h1 : wr.cell? ⟨b, off + j, none⟩ = some (.string (markT (k + j))) := by rw [hb.cell (p := ⟨b, off + j, none⟩) hbl]; exact hcell
      have hi : (j : Int) < (xs.length : Int) := by omega
      have hi0 : (0 : Int) ≤ (j : Int) := by omega
      have hd := hb.drew
      have ecast : ((k : Int) + (j : Int)) = ((k + j : Nat) : Int) := by omega
      have HEC := hide ecast
      clear ecast
      go_wp2
      go_region_held3 (fun w' => w'.cell? ⟨b, off + j, none⟩ = some (.string (markT (k + j))) ∧ Below w.heap.size w w')
        (first | exact hold1 hd hbl hcell | exact hold1 hb9 hbl hcell)
        ((go_at_call 33; rw [HEC.out]; refine (markText_any (k + j) _ (by omega) (by omega)).mono ?_; rintro e w2 ⟨rfl, hb2⟩; have hb9 : Below w.heap.size w w2 := bjoin hb2 (by assumption)))
      go_wp2
      go_roundw
      case rel => exact ⟨j + 1, by omega, by go_num, by go_num, hb9⟩
      case measure => simp [intOf]; omega
    · obtain rfl : j = xs.length := by omega
      go_wp2
      go_ret
      exact ⟨ret_int (by omega), hb⟩

set_option maxHeartbeats 1000000 in
theorem heldReps_any (xs : List Rep) (v : Value) (k : Nat) (w : World) (hk : 1 ≤ k) (hkb : k + cField xs ≤ 4611686018427387904) {lo : Nat} (hv : RepsAt lo w v (mkField k xs)) :
    Calls Tryd.prog 51 #[v, .int .i64 (k : Int)] w fun e w' => e = .returned (.int .i64 ((k + cField xs : Nat) : Int)) ∧ Below w.heap.size w w' := by
  have hl : xs.length ≤ 9223372036854775807 := by have := hv.1; unfold mkField at this; rw [mkL_len] at this; exact this
  have HCF : Hid (cField xs = sumOf cRep xs) := rfl
  obtain ⟨a, cap, rfl, hc⟩ := mkL_form hv
  have HC := hide hc
  clear hc hv
  go_enter Tryd.func51, Tryd.ntmps51
  go_wp2
  go_loopw [1, 5] (fun r i w1 => ∃ j : Nat, j ≤ xs.length ∧ i = .int .i64 j ∧ r = .int .i64 ((k + sumOf cRep (xs.take j) : Nat) : Int) ∧ Below w.heap.size w w1) (fun _ i _ => xs.length - (intOf i).toNat)
  case atStart => exact ⟨0, Nat.zero_le _, rfl, by simp [sumOf], Below.refl _ _⟩
  case round =>
    obtain ⟨j, hj, rfl, rfl, hb⟩ := hrel
    by_cases hj2 : j < xs.length
    · obtain ⟨b, off, rfl, hbl, ve, hcell, hel⟩ := HC.out j hj2
      have h1 : wr.cell? ⟨b, off + j, none⟩ = some ve := by rw [hb.cell (p := ⟨b, off + j, none⟩) hbl]; simpa using hcell
      have hel' := At.kept kept_str hel hb
      have hst := sum_take cRep xs j hj2
      have hsl := sum_le cRep xs (j + 1)
      have hcf := HCF.out
      have hroom : k + sumOf cRep (xs.take j) + cRep xs[j] ≤ 4611686018427387904 := by omega
      have HST := hide hst
      clear hcell hel hst hsl hcf
      go_wp2_with fail
      refine (heldStrs_any xs[j] ve (k + sumOf cRep (xs.take j)) _ (by omega) hroom hel').mono ?_
      rintro e w2 ⟨rfl, hb2⟩
      have hb9 : Below w.heap.size w w2 := bjoin hb2 hb
      have hpos : ¬ (((k + sumOf cRep (xs.take j) + cRep xs[j] : Nat) : Int)) < 0 := by omega
      clear hb2 h1 hel'
      go_wp2_with fail
      go_roundw
      case rel => exact ⟨j + 1, by omega, by go_num, by rw [HST.out]; go_num, hb9⟩
      case measure => simp [intOf]; omega
    · obtain rfl : j = xs.length := by omega
      go_wp2_with fail
      go_ret
      exact ⟨ret_int (by rw [HCF.out, List.take_length]), hb⟩

set_option maxHeartbeats 1000000 in
theorem heldFields_any (xs : List Field) (v : Value) (k : Nat) (w : World) (hk : 1 ≤ k) (hkb : k + cFields xs ≤ 4611686018427387904) {lo : Nat} (hv : FieldsAt lo w v (mkFields k xs)) :
    Calls Tryd.prog 35 #[v, .int .i64 (k : Int)] w fun e w' => e = .returned (.int .i64 ((k + cFields xs : Nat) : Int)) ∧ Below w.heap.size w w' := by
  have hl : xs.length ≤ 9223372036854775807 := by have := hv.1; unfold mkFields at this; rw [mkL_len] at this; exact this
  have HCF : Hid (cFields xs = sumOf cField xs) := rfl
  obtain ⟨a, cap, rfl, hc⟩ := mkL_form hv
  have HC := hide hc
  clear hc hv
  go_enter Tryd.func35, Tryd.ntmps35
  go_wp2
  go_loopw [1, 5] (fun r i w1 => ∃ j : Nat, j ≤ xs.length ∧ i = .int .i64 j ∧ r = .int .i64 ((k + sumOf cField (xs.take j) : Nat) : Int) ∧ Below w.heap.size w w1) (fun _ i _ => xs.length - (intOf i).toNat)
  case atStart => exact ⟨0, Nat.zero_le _, rfl, by simp [sumOf], Below.refl _ _⟩
  case round =>
    obtain ⟨j, hj, rfl, rfl, hb⟩ := hrel
    by_cases hj2 : j < xs.length
    · obtain ⟨b, off, rfl, hbl, ve, hcell, hel⟩ := HC.out j hj2
      have h1 : wr.cell? ⟨b, off + j, none⟩ = some ve := by rw [hb.cell (p := ⟨b, off + j, none⟩) hbl]; simpa using hcell
      have hel' := At.kept kept_rep hel hb
      have hst := sum_take cField xs j hj2
      have hsl := sum_le cField xs (j + 1)
      have hcf := HCF.out
      have hroom : k + sumOf cField (xs.take j) + cField xs[j] ≤ 4611686018427387904 := by omega
      have HST := hide hst
      clear hcell hel hst hsl hcf
      go_wp2_with fail
      refine (heldReps_any xs[j] ve (k + sumOf cField (xs.take j)) _ (by omega) hroom hel').mono ?_
      rintro e w2 ⟨rfl, hb2⟩
      have hb9 : Below w.heap.size w w2 := bjoin hb2 hb
      have hpos : ¬ (((k + sumOf cField (xs.take j) + cField xs[j] : Nat) : Int)) < 0 := by omega
      clear hb2 h1 hel'
      go_wp2_with fail
      go_roundw
      case rel => exact ⟨j + 1, by omega, by go_num, by rw [HST.out]; go_num, hb9⟩
      case measure => simp [intOf]; omega
    · obtain rfl : j = xs.length := by omega
      go_wp2_with fail
      go_ret
      exact ⟨ret_int (by rw [HCF.out, List.take_length]), hb⟩

set_option maxHeartbeats 1000000 in
theorem heldSegs_any (xs : List Seg) (v : Value) (k : Nat) (w : World) (hk : 1 ≤ k) (hkb : k + cMsg xs ≤ 4611686018427387904) {lo : Nat} (hv : SegsAt lo w v (mkMsg k xs)) :
    Calls Tryd.prog 21 #[v, .int .i64 (k : Int)] w fun e w' => e = .returned (.int .i64 ((k + cMsg xs : Nat) : Int)) ∧ Below w.heap.size w w' := by
  have hl : xs.length ≤ 9223372036854775807 := by have := hv.1; unfold mkMsg at this; rw [mkL_len] at this; exact this
  have HCF : Hid (cMsg xs = sumOf cSeg xs) := rfl
  obtain ⟨a, cap, rfl, hc⟩ := mkL_form hv
  have HC := hide hc
  clear hc hv
  go_enter Tryd.func21, Tryd.ntmps21
  go_wp2
  go_loopw [1, 5] (fun r i w1 => ∃ j : Nat, j ≤ xs.length ∧ i = .int .i64 j ∧ r = .int .i64 ((k + sumOf cSeg (xs.take j) : Nat) : Int) ∧ Below w.heap.size w w1) (fun _ i _ => xs.length - (intOf i).toNat)
  case atStart => exact ⟨0, Nat.zero_le _, rfl, by simp [sumOf], Below.refl _ _⟩
  case round =>
    obtain ⟨j, hj, rfl, rfl, hb⟩ := hrel
    by_cases hj2 : j < xs.length
    · obtain ⟨b, off, rfl, hbl, hc0, _, ve, hc1, hel⟩ := HC.out j hj2
      have hst := sum_take cSeg xs j hj2
      have hsl := sum_le cSeg xs (j + 1)
      have hcf := HCF.out
      have hcs : cSeg xs[j] = 1 + cFields xs[j].fields := rfl
      have hroom : k + sumOf cSeg (xs.take j) + 1 + cFields xs[j].fields ≤ 4611686018427387904 := by omega
      have HST : Hid (k + sumOf cSeg (xs.take (j + 1)) = k + sumOf cSeg (xs.take j) + 1 + cFields xs[j].fields) := by rw [hst, hcs]; show _ = _; omega
      have hc0' : w.cell? ⟨b, off + j * 2, none⟩ = some (.string (markT (k + sumOf cSeg (xs.take j)))) := hc0
      have hel0 : FieldsAt lo w ve (mkFields (k + sumOf cSeg (xs.take j) + 1) xs[j].fields) := hel
      clear hst hsl hcf hcs hc0 hel
      generalize hK : k + sumOf cSeg (xs.take j) = K at *
      have hK1 : 1 ≤ K := by omega
      clear hK
      have h1 : wr.cell? ⟨b, off + j * 2, none⟩ = some (.string (markT K)) := by rw [hb.cell (p := ⟨b, off + j * 2, none⟩) hbl]; exact hc0'
      have hi : (j : Int) < (xs.length : Int) := by omega
      have hi0 : (0 : Int) ≤ (j : Int) := by omega
      have hd := hb.drew
      go_wp2
      go_region_held3 (fun w' => w'.cell? ⟨b, off + j * 2, none⟩ = some (.string (markT K)) ∧ Below w.heap.size w w')
        (first | exact hold1 hd hbl hc0' | exact hold1 hb9 hbl hc0')
        ((go_at_call 33; refine (markText_any K _ hK1 (by omega)).mono ?_; rintro e w2 ⟨rfl, hb2⟩; have hb9 : Below w.heap.size w w2 := bjoin hb2 (by assumption)))
      have h2 : w2.cell? ⟨b, off + j * 2 + 1, none⟩ = some ve := by rw [hb9.cell (p := ⟨b, off + j * 2 + 1, none⟩) hbl]; exact hc1
      have hel' := At.kept kept_field hel0 hb9
      go_wp2_with fail
      have ecast : ((K : Int) + 1) = ((K + 1 : Nat) : Int) := by omega
      rw [ecast]
      refine (heldFields_any xs[j].fields ve (K + 1) _ (by omega) (by omega) hel').mono ?_
      rintro e w3 ⟨rfl, hb3⟩
      have hb10 : Below w.heap.size w w3 := bjoin hb3 hb9
      have hpos : ¬ (((K + 1 + cFields xs[j].fields : Nat) : Int)) < 0 := by omega
      clear hb3 h2 hel' ecast
      go_wp2_with fail
      go_roundw
      case rel => exact ⟨j + 1, by omega, by go_num, by rw [HST.out]; go_num, hb10⟩
      case measure => simp [intOf]; omega
    · obtain rfl : j = xs.length := by omega
      go_wp2_with fail
      go_ret
      exact ⟨ret_int (by rw [HCF.out, List.take_length]), hb⟩

set_option maxHeartbeats 400000 in
theorem heldMsg_any (xs : List Seg) (v : Value) (k : Nat) (w : World) (hk : 1 ≤ k) (hkb : k + cMsg xs ≤ 4611686018427387904) {lo : Nat} (hv : SegsAt lo w v (mkMsg k xs)) :
    Calls Tryd.prog 8 #[.agg #[v], .int .i64 (k : Int)] w fun e w' => e = .returned (.int .i64 ((k + cMsg xs : Nat) : Int)) ∧ Below w.heap.size w w' := by
  have hb := (Below.refl w.heap.size w).alloc (Nat.le_refl _) (Obj.cells #[v] 24)
  have hv1 := At.kept kept_seg hv hb
  have hpos : ¬ (((k + cMsg xs : Nat) : Int)) < 0 := by omega
  go_enter Tryd.func8, Tryd.ntmps8
  go_wp2_with fail
  refine (heldSegs_any xs v k _ hk hkb hv1).mono ?_
  rintro e w' ⟨rfl, hb2⟩
  go_wp2_with fail
  go_ret
  exact ⟨rfl, bjoin hb2 hb⟩
end Go.Proofs.YtpdnocolmghnbaaDoor.Msg
